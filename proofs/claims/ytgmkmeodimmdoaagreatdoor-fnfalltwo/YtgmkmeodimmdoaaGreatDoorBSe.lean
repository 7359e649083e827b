import Derived.Test.YtgmkmeodimmdoaaGreatDoorBSd
import Derived.Deep.Upon
namespace Go.Proofs.YtgmkmeodimmdoaaGreatDoor
open Go.RowKit
set_option maxRecDepth 100000
theorem run_append_rest {P:Program} (w:World) {t e:TypeId} {bytes:Nat} (st:SlTy P t e 1 bytes) (ty:TypeId) (g n cap:Nat) (xs:List Value) (row:w.ownsRow 0 e 1 (.slice (some ⟨g,0,none⟩) n cap) n xs) (k o:Nat) (hk:k≤n) (hO:cap-k=0∨o=k) (hcap:n≤cap)
  (a:Addr) (m c:Nat) (news:List Value) (hm:0<m) (hl:news.length=m) (hnews:∀j u,news[j]?=some u→w.cell? (a.add j)=some u) (h1:∀u∈news,u.oneCell'=true) (h63:n+m≤maxLen) (hb:(n+m)*bytes≤140737488355328) :
  ∃g' o' n' k' cap' xs' w',(Builtin.append_ #[t,t] ty #[.slice (some ⟨g,o,none⟩) (n-k) (cap-k),.slice (some a) m c]).run P w=.ok (.slice (some ⟨g',o',none⟩) (n'-k') (cap'-k')) w'∧w'.ownsRow 0 e 1 (.slice (some ⟨g',0,none⟩) n' cap') n' xs'∧w.grownBy w' (some g)∧(g'=g∨g'=w.heap.size)∧k'≤n'∧((xs'=xs++news∧k'=k∧n'=n+m)∨(xs'=xs.drop k++news∧k'=0∧n'=n-k+m))∧(cap'-k'=0∨o'=k')∧n'≤n+m:=by
 obtain⟨i,z,i1,i2,i3,i4,i5⟩:=st.i;have hsrc:_root_.Go.Src P i.size t (.slice (some a) m c) m news w:=Go.Src.ofSlice w st.u a m c news (by rw [i3,Nat.mul_one];exact hl) hnews h1;obtain⟨hxl,hh⟩:=row;rcases hh with⟨e1,_⟩|⟨g2,cap2,cur,e1,_,hg,hnc,hcm,hcs,ht⟩
 ·cases e1
 cases e1
 rw [Nat.mul_one] at hxl hcs ht;by_cases hroom:n+m≤cap
 ·have ho:o=k:=by omega
  subst ho;obtain⟨v',w',q1,q2,q3,_,_⟩:=run_append_own_at (P:=P) w 0 t ty e i z 1 bytes st.u i1 i2 i3 i4 i5 st.pos (.slice (some ⟨g,0,none⟩) n cap) n xs ⟨by rw [Nat.mul_one];exact hxl,.inr ⟨g,cap,cur,rfl,Nat.zero_le _,hg,hnc,hcm,by rw [Nat.mul_one];exact hcs,by rw [Nat.mul_one];exact ht⟩⟩ a m c news (by rw [Nat.mul_one];exact hl) hnews h1 h63 hb (Nat.zero_le _);have cells:∀b:Nat,b+news.length≤cap→∀j,j<news.length→(w.cell? ⟨g,b+j,none⟩).isSome=true:=fun b hb j hj=>by
   rw [cell_of_row w g (b+j) cur e (0,0) hg,Array.getElem?_eq_getElem (by omega)];rfl
  have froz:∀j:Nat,w.frozen? ⟨g,j,none⟩=false:=fun j=>frozen_of_row w g j cur e hg
  have r1:=run_append_room_src (P:=P) w t t ty e i st.u i1 g 0 n cap _ m news hsrc hroom (fun j hj=>by rw [i3,Nat.mul_one,Nat.zero_add];exact cells n (by omega) j hj) (fun j _=>froz _);have r2:=run_append_room_src (P:=P) w t t ty e i st.u i1 g o (n-o) (cap-o) _ m news hsrc (by omega) (fun j hj=>by rw [i3,Nat.mul_one,show o+(n-o)=n by omega];exact cells n (by omega) j hj) (fun j _=>froz _);rw [q1] at r1
  injection r1 with e2 e3
  rw [i3,Nat.mul_one,Nat.zero_add] at e3;rw [i3,Nat.mul_one,show o+(n-o)=n by omega,←e3] at r2;rw [e2] at q2;exact⟨g,o,n+m,o,cap,xs++news,w',by rw [show n+m-o=n-o+m by omega];exact r2,q2,q3,.inl rfl,by omega,.inl ⟨rfl,rfl,rfl⟩,.inr rfl,Nat.le_refl _⟩
 ·have hold:(Builtin.firstCells i.size (n-k) (.slice (some ⟨g,o,none⟩) (n-k) (cap-k))).run P w.drew=.ok (xs.drop k).toArray w.drew:=by
   refine run_firstCells_some w.drew i.size (n-k) ⟨g,o,none⟩ (n-k) (cap-k) (xs.drop k) (by rw [i3,List.length_drop];omega) fun j u hu=>?_
   have hj:j<n-k:=by have:=(List.getElem?_eq_some_iff.1 hu).1;rw [List.length_drop] at this;omega
   have ho:o=k:=by omega
   rw [Addr.add_mid,cell_of_row w.drew g (o+j) cur e (0,0) hg,ho];rw [List.getElem?_drop,←ht,List.getElem?_take_of_lt (by omega)] at hu;simpa using hu
  have hrun:=run_append_grow_src (P:=P) w t t ty e i z st.u i1 i2 (some ⟨g,o,none⟩) (n-k) (cap-k) (xs.drop k) hold _ m news hsrc (by omega) (by have:=h63;simp only [maxLen] at this;omega) (growslice_fits (by omega) (by rw [i4];exact Nat.le_trans (Nat.mul_le_mul_right _ (by omega)) hb));have hge:=grownCap_ge w (n-k+m) (cap-k) e;have hcm2:=grownCap_le_maxLen w (n-k+m) (cap-k) e (by omega);have hL:(xs.drop k++news).length=n-k+m:=by rw [List.length_append,List.length_drop,hxl,hl]
  refine⟨w.heap.size,0,n-k+m,0,grownCap w (n-k+m) (cap-k) e,xs.drop k++news,_,hrun,⟨by rw [hL,Nat.mul_one],.inr ⟨w.heap.size,_,_,rfl,Nat.zero_le _,heap_alloc_new w.drew _,hge,hcm2,?_,?_⟩⟩,⟨rfl,rfl,rfl,by simp,fun b hb _=>heap_alloc_old w.drew _ hb⟩,.inr rfl,Nat.zero_le _,.inr ⟨rfl,rfl,rfl⟩,.inr rfl,by omega⟩
  ·rw [Array.size_append,List.size_toArray,hL,size_zeroCells,i5];omega
  ·rw [Array.toList_append,Nat.mul_one,←hL];exact List.take_left
theorem Ext.appendRest {o:Oper} {s x:Operand} (ho:o.op=.call { callee:=.builtin .append,args:=#[s,x],argTypes:=#[25,25] }) {ev:Operand→Value} {h:Hp} {K:Option Value→Hp→Prop} {l:List Atom} {g cap:Nat} {L:List Int}
  (hown:Own h (.row (rowI (.slice (some ⟨g,0,none⟩) L.length cap) L)::l)) (k off:Nat) (hk:k≤L.length) (hO:cap-k=0∨off=k) (hs:ev s=.slice (some ⟨g,off,none⟩) (L.length-k) (cap-k)) {y:Value} (hx:ev x=y) {M:List Int} (src:Src h 1 y M.length (M.flatMap encI)) (hb:L.length+M.length<1000000)
  (K1:∀g' o' k' cap' L' h',k'≤L'.length→(cap'-k'=0∨o'=k')→L'.drop k'=L.drop k++M→L'.length≤L.length+M.length→Own h' (.row (rowI (.slice (some ⟨g',0,none⟩) L'.length cap') L')::l)→K (some (.slice (some ⟨g',o',none⟩) (L'.length-k') (cap'-k'))) h'):Ext Tryz.prog (execOp ev o) h K:=by
 have hr:RowOk h (rowI (.slice (some ⟨g,0,none⟩) L.length cap) L):=hown.ok _ (List.mem_cons_self);have hcap:L.length≤cap:=by
  rcases hr.2 with⟨e,_⟩|⟨_,_,_,e,_,hn,_⟩
  ·cases e
  ·cases e;exact hn
 refine⟨fun w hw=>?_⟩;by_cases hm:M.length=0
 ·have hM:M=[]:=List.eq_nil_of_length_eq_zero hm;subst hM;obtain⟨i,z,i1,i2,i3,i4,i5⟩:=slInt.i;have hsrc:_root_.Go.Src Tryz.prog i.size 25 y 0 [] w:=by
   rcases src.2.2 with⟨c,rfl,_⟩|⟨g2,o2,c,cur,e,fz,rfl,hg,_⟩
   ·exact Go.Src.ofNil w slInt.u c
   ·exact Go.Src.ofSlice w slInt.u _ _ c [] (by simp) (fun j u hu=>by simp at hu) (fun u hu=>by cases hu)
  have hrun:(execOp ev o).run Tryz.prog w=.ok (.value (.slice (some ⟨g,off,none⟩) (L.length-k) (cap-k))) w:=by
   have:=run_append_nothing w 25 25 o.type 3 i slInt.u i1 (some ⟨g,off,none⟩) (L.length-k) (cap-k) (by omega) y hsrc;simp [execOp,ho,resolve,invoke,builtin,hs,hx,this,Result.andThen]
  exact⟨_,w,some _,h,hrun,.inl ⟨rfl,rfl⟩,K1 g off k cap L h hk hO (by simp) (Nat.le_refl _) hown,hw,Fr.refl h w⟩
 ·obtain⟨hl,h1,⟨c,rfl,h0⟩|⟨g2,o2,c,cur,e2,fz,rfl,hg2,hn⟩⟩:=src
  ·omega
  have hg':=hw g2 _ hg2;obtain⟨g',o',n',k',cap',xs',w',q1,q2,q3,q4,q5,q6,q7,q8⟩:=run_append_rest w slInt o.type g L.length cap (L.flatMap encI) (hr.owns hw) k off hk hO hcap ⟨g2,o2,none⟩ M.length c (M.flatMap encI) (by omega) (by omega) (fun j u hu=>by
   rw [Addr.add_mid,cell_of_row w g2 (o2+j) cur e2 fz hg'];rw [←hn] at hu;have:=take_drop_get cur.toList o2 (M.length*1) j u hu;simpa using this) h1 (by unfold maxLen;omega) (by omega)
  obtain⟨L',e1,e2,e3⟩:∃L':List Int,xs'=L'.flatMap encI∧n'=L'.length∧L'.drop k'=L.drop k++M:=by
   rcases q6 with⟨e1,e2,e3⟩|⟨e1,e2,e3⟩
   ·exact⟨L++M,by rw [e1,List.flatMap_append],by rw [e3,List.length_append],by rw [e2,List.drop_append_of_le_length hk]⟩
   ·refine⟨L.drop k++M,?_,by rw [e3,List.length_append,List.length_drop],by rw [e2,List.drop_zero]⟩;rw [e1,List.flatMap_append];have:=flat_drop' encI 1 encI_len L k hk;rw [Nat.mul_one] at this;rw [this]
  subst e1 e2;have hrun:(execOp ev o).run Tryz.prog w=.ok (.value (.slice (some ⟨g',o',none⟩) (L'.length-k') (cap'-k'))) w':=by
   simp [execOp,ho,resolve,invoke,builtin,hs,hx,q1,Result.andThen]
  refine⟨_,w',some _,fun b=>if g'=b then w'.heap[b]? else if g=b then none else h b,hrun,.inl ⟨rfl,rfl⟩,K1 g' o' k' cap' L' _ q5 q7 e3 q8 ?_,?_,?_⟩
  ·refine hown.turn (y:=.row (rowI (.slice (some ⟨g',0,none⟩) L'.length cap') L')) ?_ (fun b e=>?_) (fun b e1 e2=>by
    have e1':¬g'=b:=fun e=>e1 (by rw [←e];rfl)
    have e2':¬g=b:=fun e=>e2 (by rw [←e];rfl)
    show (if g'=b then w'.heap[b]? else if g=b then none else h b)=h b;rw [if_neg e1',if_neg e2'])
   ·refine⟨q2.1,q2.2.imp id ?_⟩;rintro⟨g3,cap3,cur,hv,_,hg,hr3⟩
    cases hv
    exact⟨g',cap',cur,rfl,by simp only [if_true];exact hg,hr3⟩
   ·have e':some g'=some b:=e
    cases e'
    rcases q4 with q|q
    ·exact .inl (by rw [q];rfl)
    ·exact .inr (by rw [q];exact heap_none hw)
  ·intro b ob e
   change (if g'=b then w'.heap[b]? else if g=b then none else h b)=some ob at e
   split at e
   ·exact e
   ·split at e
    ·cases e
    ·rename_i hb1 hb2
     rw [q3.block b (hw.lt e) (fun e2=>hb2 (by injection e2 with e2;exact e2.symm))];exact hw b ob e
  ·refine⟨q3.os,q3.tape,q3.output,q3.size,fun b hb e=>?_⟩;have hrb:g≠b:=fun e2=>by
    obtain⟨ob,hob⟩:=Atom.at_ (x:=.row (rowI (.slice (some ⟨g,0,none⟩) L.length cap) L)) hr (g:=g) rfl;rw [e2,e] at hob;cases hob
   refine⟨q3.block b hb (fun e2=>hrb (by injection e2 with e2;exact e2.symm)),?_⟩;have hvb:¬g'=b:=fun e2=>by
    rcases q4 with q|q
    ·exact hrb (by rw [←q,e2])
    ·omega
   show (if g'=b then w'.heap[b]? else if g=b then none else h b)=none;rw [if_neg hvb,if_neg hrb,e]
def PW.ne (w:PW):Nat:=w.runs.countP (fun d=>d.st != 3)
theorem ne_set {L:List RunD} {i:Nat} (hi:i<L.length) {y:RunD} (h:y.st≠3→L[i].st≠3):(L.set i y).countP (fun d=>d.st != 3)≤L.countP (fun d=>d.st != 3):=by
 rw [List.countP_set hi];have hp:L[i].st≠3→0<L.countP (fun d=>d.st != 3):=fun e=>List.countP_pos_iff.2 ⟨L[i],List.getElem_mem hi,by simpa using e⟩
 by_cases hy:y.st=3
 ·simp [hy]
 ·have:=hp (h hy);simp [hy,h hy];omega
theorem giveP_ne (w:PW) (id:Int) (v:Int×Int):(giveP w id v).ne≤w.ne:=by
 unfold giveP
 split
 ·split
  ·rename_i d hd
   obtain⟨hi,rfl⟩:=List.getElem?_eq_some_iff.1 hd;unfold giveAt PW.ne
   split
   ·exact Nat.le_refl _
   ·rename_i h1
    have h2:w.runs[(id-1).toNat].st≠3:=fun e=>h1 (by rw [e];rfl)
    split
    ·exact ne_set hi fun _=>h2
    ·exact ne_set hi fun _=>h2
  ·exact Nat.le_refl _
 ·exact Nat.le_refl _
theorem linkStep_ne (s:PW×List Int) (id:Int) (v:Int×Int) (k:Int):(linkStep id v s k).1.ne≤s.1.ne:=by
 unfold linkStep
 split
 ·exact Nat.le_refl _
 ·rename_i d hd
  obtain⟨hi,rfl⟩:=List.getElem?_eq_some_iff.1 hd;have h1:PW.ne { s.1 with runs:=s.1.runs.set (k-1).toNat { s.1.runs[(k-1).toNat] with links:=lessP s.1.runs[(k-1).toNat].links id } }≤s.1.ne:=ne_set hi fun h=>h
  split
  ·exact h1
  ·split
   ·exact Nat.le_trans (giveP_ne _ _ _) h1
   ·exact h1
theorem links_ne (id:Int) (v:Int×Int):∀(L:List Int) (s:PW×List Int),(L.foldl (linkStep id v) s).1.ne≤s.1.ne
 |[],_=>Nat.le_refl _
 |_::L,_=>Nat.le_trans (links_ne id v L _) (linkStep_ne _ _ _ _)
theorem gives_ne (v:Int×Int):∀(L:List Int) (w:PW),(L.foldl (fun w k=>giveP w k v) w).ne≤w.ne
 |[],_=>Nat.le_refl _
 |_::L,_=>Nat.le_trans (gives_ne v L _) (giveP_ne _ _ _)
theorem fallA_ne (w:PW) (i:Nat) (hi:i<w.runs.length) (id:Int) (v:Int×Int) (h:w.runs[i].st≠3):(fallA w i id w.runs[i] v).ne+1≤w.ne:=by
 have hp:0<w.runs.countP (fun d=>d.st != 3):=List.countP_pos_iff.2 ⟨w.runs[i],List.getElem_mem hi,by simpa using h⟩;have e:(fallA w i id w.runs[i] v).ne=(w.runs.set i (w.runs[i].fall v)).countP (fun d=>d.st != 3):=by
  unfold fallA PW.ne;rw [List.countP_map];rfl
 have e2:(w.runs[i].fall v).st=3:=rfl;rw [e,List.countP_set hi];unfold PW.ne;simp [h,e2];omega
theorem oneP_ne (w:PW) (i:Nat) (hi:i<w.runs.length) (id:Int) (v:Int×Int) (h:w.runs[i].st≠3):(oneP w i id w.runs[i] v).1.ne+1≤w.ne :=
 Nat.le_trans (Nat.succ_le_succ (Nat.le_trans (gives_ne _ _ _) (links_ne _ _ _ _))) (fallA_ne w i hi id v h)
theorem links_sub (id:Int) (v:Int×Int):∀(L:List Int) (s:PW×List Int) (x:Int),x∈(L.foldl (linkStep id v) s).2→x∈s.2∨x∈L
 |[],_,_,h=>.inl h
 |k::L,s,x,h=>by
  rcases links_sub id v L _ x h with h|h
  ·unfold linkStep at h
   split at h
   ·exact .inl h
   ·split at h
    ·exact .inl h
    ·split at h
     ·exact .inl h
     ·rcases List.mem_append.1 h with h|h
      ·exact .inl h
      ·exact .inr (by rw [List.mem_singleton.1 h];exact List.mem_cons_self)
  ·exact .inr (List.mem_cons_of_mem _ h)
theorem oneP_sub (w:PW) (i:Nat) (id:Int) (d:RunD) (v:Int×Int) (x:Int) (h:x∈(oneP w i id d v).2):x∈d.links:=by
 rcases links_sub id v d.links _ x h with h|h
 ·cases h
 ·exact h
def EndN (v:Int×Int):Nat→PW→List Int→PW→Prop
 |0,w,L,w'=>L=[]∧w'=w
 |_+1,_,[],_=>False
 |n+1,w,k::L,w'=>∃d,w.runs[(k-1).toNat]?=some d∧((d.st=3∧EndN v n w L w')∨(d.st≠3∧EndN v n (oneP w (k-1).toNat k d v).1 (L++(oneP w (k-1).toNat k d v).2) w'))
def EndR (v:Int×Int) (w:PW) (L:List Int) (w':PW):Prop:=∃n,EndN v n w L w'
theorem EndR.nil {v:Int×Int} (w:PW):EndR v w [] w:=⟨0,rfl,rfl⟩
theorem EndR.skip {v:Int×Int} {w w':PW} {k:Int} {L:List Int} {d:RunD} (h1:w.runs[(k-1).toNat]?=some d) (h2:d.st=3) (h3:EndR v w L w'):EndR v w (k::L) w':=by
 obtain⟨n,hn⟩:=h3;exact⟨n+1,d,h1,.inl ⟨h2,hn⟩⟩
theorem EndR.one {v:Int×Int} {w w':PW} {k:Int} {L:List Int} {d:RunD} (h1:w.runs[(k-1).toNat]?=some d) (h2:d.st≠3) (h3:EndR v (oneP w (k-1).toNat k d v).1 (L++(oneP w (k-1).toNat k d v).2) w'):EndR v w (k::L) w':=by
 obtain⟨n,hn⟩:=h3;exact⟨n+1,d,h1,.inr ⟨h2,hn⟩⟩
theorem EndR.ind {v:Int×Int} {motive:(w:PW)→(L:List Int)→(w':PW)→EndR v w L w'→Prop} (nil:∀w,motive w [] w (EndR.nil w))
  (skip:∀{w w':PW} {k:Int} {L:List Int} {d:RunD} (h1:w.runs[(k-1).toNat]?=some d) (h2:d.st=3) (h3:EndR v w L w'),motive w L w' h3→motive w (k::L) w' (EndR.skip h1 h2 h3))
  (one:∀{w w':PW} {k:Int} {L:List Int} {d:RunD} (h1:w.runs[(k-1).toNat]?=some d) (h2:d.st≠3) (h3:EndR v (oneP w (k-1).toNat k d v).1 (L++(oneP w (k-1).toNat k d v).2) w'),motive _ _ w' h3→motive w (k::L) w' (EndR.one h1 h2 h3)) {w:PW} {L:List Int} {w':PW} (h:EndR v w L w'):motive w L w' h:=by
 obtain⟨n,hn⟩:=h
 induction n generalizing w L with
 |zero=>obtain⟨rfl,rfl⟩:=hn;exact nil _
 |succ n ih =>
  cases L with
  |nil=>exact hn.elim
  |cons k L =>
   obtain⟨d,h1,⟨h2,h3⟩|⟨h2,h3⟩⟩:=hn
   ·exact skip h1 h2 ⟨n,h3⟩ (ih h3)
   ·exact one h1 h2 ⟨n,h3⟩ (ih h3)
theorem Ext.rest {P:Program} {t e:TypeId} {sz bytes:Nat} (st:SlTy P t e sz bytes) {o:Oper} {x y:Operand} (ho:o.op=.slice t x (some y) none none) {ev:Operand→Value} {h:Hp} {K:Option Value→Hp→Prop} {g off n cap:Nat} (hx:ev x=.slice (some ⟨g,off,none⟩) n cap) (k:Nat) (hk:k≤n) (hy:ev y=.int .i64 (k:Int))
  (hK:∀o',(cap-k=0∨o'=off+k*sz)→K (some (.slice (some ⟨g,o',none⟩) (n-k) (cap-k))) h):Ext P (execOp ev o) h K:=by
 have hop:execOp ev o=(do pure (Next.value (←Instr.sliceAt t (ev x) (some (ev y)) none none)):Sem Next):=by unfold execOp;rw [ho];rfl
 rw [hop,hx,hy];by_cases hc:cap=k
 ·refine Ext.value _ (fun w _=>?_) (hK off (.inl (by omega)));simp [Instr.sliceAt,Instr.slice,Instr.sliceBounds,Instr.sliceBound,asIntOf,run_underlying st.u,st.size,hk,hc]
 ·refine Ext.value _ (fun w _=>?_) (hK (off+k*sz) (.inr rfl));simp [Instr.sliceAt,Instr.slice,Instr.sliceBounds,Instr.sliceBound,asIntOf,run_underlying st.u,st.size,hk,hc,Addr.add_mid]
theorem Ext.loadIntAt {o:Oper} {y:Operand} (ho:o.op=.load 3 y) {ev:Operand→Value} {h:Hp} {K:Option Value→Hp→Prop} {v:Value} {L:List Int} (hr:RowOk h (rowI v L)) {g cap:Nat} (hv:v=.slice (some ⟨g,0,none⟩) L.length cap) {i:Nat} (hi:i<L.length) {a:Nat} (ha:a=i) (hy:ev y=.pointer (some ⟨g,a,none⟩)) (k:K (some (.int .i64 L[i])) h):Ext Tryz.prog (execOp ev o) h K :=
 Ext.loadInt ho hr hv hi (by rw [hy,ha,show 0+i*1=i by omega]) k
theorem l13End_con (D:WD) (B:Nat) (hB:B<1000) (hw:D.pure.Wk B) (i:Nat) (hi:i<D.runs.length) (id:Int) (hid:id=(i:Int)+1) (v:Int×Int) (h:Hp) (l:List Atom) (ho:Own h (wAtoms D++l)) :
  Con Tryz.prog 53 #[D.val,.int .i64 id,.agg #[.int .i64 v.1,.int .i64 v.2]] h fun r h'=>∃D',r=D'.val∧Own h' (wAtoms D'++l)∧EndR v D.pure [id] D'.pure∧D'.pure.Wk B∧D'.runs.length=D.runs.length:=by
 have hn6:D.runs.length≤6:=by have:=hw.runs;rw [pure_len] at this;exact this
 refine Con.of_W (tb:=tbE) (args:=[D.val,.int .i64 id,.agg #[.int .i64 v.1,.int .i64 v.2]]) Tryz.func53 rfl Tryz.results53 Tryz.ntmps53 (by simp) (Tryz.call53 _) (tm:=[(0,.a D.cells),(1,.v (.int .i64 id)),(2,.a [.int .i64 v.1,.int .i64 v.2])]) rfl ?_;refine vc_ok ⟨tbE_ok,_,Tryz.func53,Tryz.results53,Tryz.ntmps53⟩ 400 _ _ _ _ ?_;conv=>whnf
 refine Ext.litI rfl ho id rfl fun g1 h1 _ ho1=>?_
 conv=>whnf
 refine W.cut [(3,.p 0 0),(5,.p 1 0),(6,.p 2 0),(7,.v (.slice (some ⟨g1,0,none⟩) ([id].length-0) (1-0)))] [⟨27,D.cells⟩,⟨32,[.int .i64 v.1,.int .i64 v.2]⟩,⟨27,[.slice none 0 0,.slice none 0 0,.slice none 0 0,.int .i64 0,.int .i64 0,.int .i64 0,.int .i64 0]⟩] [] ⟨rfl,rfl,rfl,rfl,trivial⟩ rfl rfl ⟨_,rfl⟩ ?_;have hne:D.pure.ne≤6:=Nat.le_trans (List.countP_le_length) hw.runs;refine W.loop (α:=WD×Nat×Nat×Nat×Nat×List Int) (fun x=>[(3,.p 0 0),(5,.p 1 0),(6,.p 2 0),(7,.v (.slice (some ⟨x.2.1,x.2.2.1,none⟩) (x.2.2.2.2.2.length-x.2.2.2.1) (x.2.2.2.2.1-x.2.2.2.1)))])
  (fun x=>[⟨27,x.1.cells⟩,⟨32,[.int .i64 v.1,.int .i64 v.2]⟩,⟨27,[.slice none 0 0,.slice none 0 0,.slice none 0 0,.int .i64 0,.int .i64 0,.int .i64 0,.int .i64 0]⟩])
  (fun x h'=>Own h' (.row (rowI (.slice (some ⟨x.2.1,0,none⟩) x.2.2.2.2.2.length x.2.2.2.2.1) x.2.2.2.2.2)::(wAtoms x.1++l))∧x.2.2.2.1≤x.2.2.2.2.2.length∧(x.2.2.2.2.1-x.2.2.2.1=0∨x.2.2.1=x.2.2.2.1)∧x.1.pure.Wk B∧x.1.runs.length=D.runs.length∧(∀y∈x.2.2.2.2.2.drop x.2.2.2.1,1≤y∧y≤(D.runs.length:Int))∧x.2.2.2.2.2.length+x.1.pure.ne*B≤1+6*B∧(∀w',EndR v x.1.pure (x.2.2.2.2.2.drop x.2.2.2.1) w'→EndR v D.pure [id] w'))
  (fun x=>x.1.pure.ne*(B+1)+(x.2.2.2.2.2.length-x.2.2.2.1)) ?_ (D,g1,0,0,1,[id]) h1 ⟨ho1,Nat.zero_le _,.inr rfl,hw,rfl,by simp;omega,by have:=Nat.mul_le_mul_right B hne;simp;omega,fun w' h=>h⟩
 rintro⟨E,g,off,k,cap,L⟩ h2 ⟨hEo,hk,hO,hEw,hEl,hLr,hLb,hE⟩ ih;dsimp only at hEo hk hO hEw hEl hLr hLb hE ⊢;have hB6:L.length<10000:=by omega
 have hLcap:L.length≤cap:=by
  rcases (hEo.ok _ List.mem_cons_self:RowOk h2 (rowI (.slice (some ⟨g,0,none⟩) L.length cap) L)).2 with⟨e,_⟩|⟨_,_,_,e,_,hn,_⟩
  ·cases e
  ·cases e;exact hn
 refine vc_ok ⟨tbE_ok,_,Tryz.func53,Tryz.results53,Tryz.ntmps53⟩ 400 _ _ _ _ ?_;conv=>whnf
 refine⟨fun h3=>?_,fun h3=>?_⟩<;>conv=>whnf
 ·have hlt:k<L.length:=by simp at h3;omega
  have ho:off=k:=by omega
  refine Ext.index slInt.u slInt.size rfl rfl rfl 0 rfl (by omega) ?_;conv=>whnf
  refine Ext.loadIntAt rfl (hEo.ok _ List.mem_cons_self) rfl hlt (by rw [ho];omega) rfl ?_;conv=>whnf
  refine Ext.rest slInt rfl rfl 1 (by omega) rfl fun o' ho'=>?_
  conv=>whnf
  have hdk:L.drop k=L[k]::L.drop (k+1):=List.drop_eq_getElem_cons hlt;obtain⟨m,hm⟩:∃m:Nat,L[k]=(m:Int)+1:=⟨(L[k]-1).toNat,by have:=hLr L[k] (by rw [hdk];exact List.mem_cons_self);omega⟩;have hmE:m<E.runs.length:=by have:=hLr L[k] (by rw [hdk];exact List.mem_cons_self);omega
  have hzm:IntKind.i64.wrap (L[k]-1)=(m:Int):=by rw [hm,show (m:Int)+1-1=m by omega];exact wrapN _ (by omega) (by omega)
  have hEo2:=w_lists hEo;obtain⟨gr,hEra⟩:=w_ra hEo2 (by omega);have hera:=rv_same hEra;have hmp:m<E.pure.runs.length:=by rw [pure_len];exact hmE
  have hEg:E.pure.runs[m]=E.runs[m].1:=pure_get E m hmE hmp;have hmt:(L[k]-1).toNat=m:=by omega
  have hget:E.pure.runs[(L[k]-1).toNat]?=some E.runs[m].1:=by rw [hmt,List.getElem?_eq_getElem hmp,hEg]
  have hoff:cap-(k+1)=0∨o'=k+1:=by omega
  refine Ext.index slRun.u slRun.size rfl (by exact hera) rfl m hzm hmE ?_;conv=>whnf
  refine Ext.loadRunCell (D:=E) rfl ⟨rfl,rfl⟩ rfl (hEo2.rowOk (by simp [wAtoms])) hera hmE 5 (by decide) rfl (.int .i64 E.runs[m].1.st) rfl ?_;conv=>whnf
  refine⟨fun h4=>?_,fun h4=>?_⟩<;>conv=>whnf
  ·have h4':E.runs[m].1.st=3:=by simpa using h4
   refine W.back (ih (E,g,o',k+1,cap,L) h2 ⟨hEo,hlt,hoff,hEw,hEl,fun y hy=>hLr y (by rw [hdk];exact List.mem_cons_of_mem _ hy),hLb,fun w' hR=>hE w' (by rw [hdk];exact .skip hget h4' hR)⟩ (by dsimp only;omega)) [] (by exact⟨rfl,rfl,rfl,rfl,trivial⟩) rfl rfl
  ·have h4':E.runs[m].1.st≠3:=by simpa using h4
   have hres:=oneP_wk hEw m hmp v;rw [hEg,←hm] at hres;have hsub:=oneP_sub E.pure m L[k] E.runs[m].1 v;have hnel:=oneP_ne E.pure m hmp L[k] v (by rw [hEg];exact h4');rw [hEg] at hnel;refine(l13One_con E B (by omega) hEw m hmE L[k] hm v h2 (.row (rowI (.slice (some ⟨g,0,none⟩) L.length cap) L)::l) hEo2).mono ?_;rintro r h5 ⟨F,a,c,rfl,hoF,hF⟩;conv=>whnf
   have hFl:F.runs.length=D.runs.length:=by rw [←pure_len,hF,hres.2.1,pure_len,hEl]
   have hnr:RowOk h5 (rowI (.slice a (oneP E.pure m L[k] E.runs[m].1 v).2.length c) (oneP E.pure m L[k] E.runs[m].1 v).2):=hoF.ok _ List.mem_cons_self;have hoF2:Own h5 (.row (rowI (.slice (some ⟨g,0,none⟩) L.length cap) L)::.row (rowI (.slice a (oneP E.pure m L[k] E.runs[m].1 v).2.length c) (oneP E.pure m L[k] E.runs[m].1 v).2)::(wAtoms F++l)):=by
    refine hoF.perm ?_
    classical
    rw [List.perm_iff_count];intro a;simp only [List.count_cons,List.count_append];omega
   have hsrc:Src h5 1 (.slice a (oneP E.pure m L[k] E.runs[m].1 v).2.length c) (oneP E.pure m L[k] E.runs[m].1 v).2.length ((oneP E.pure m L[k] E.runs[m].1 v).2.flatMap encI):=RowOk.src hnr (fun u hu=>by
    obtain⟨x,_,hx⟩:=List.mem_flatMap.1 hu;exact one_int x u hx)
   refine Ext.appendRest rfl hoF2 (k+1) o' hlt hoff rfl rfl hsrc (by omega) fun g' o2 k' cap' L' h6 hk' hO' hL' hLl hown=>?_
   conv=>whnf
   refine W.back (ih (F,g',o2,k',cap',L') h6 ⟨hown.drop2,hk',hO',by rw [hF];exact hres.1,hFl,?_,?_,fun w' hR=>hE w' ?_⟩ ?_) [_] (by exact⟨rfl,rfl,rfl,rfl,trivial⟩) rfl rfl
   ·intro y hy;dsimp only at hy;rw [hL'] at hy;rcases List.mem_append.1 hy with hy|hy
    ·exact hLr y (by rw [hdk];exact List.mem_cons_of_mem _ hy)
    ·have:=hEw.links _ (pure_mem hmE) y (hsub y hy);rw [pure_len,hEl] at this;exact this
   ·dsimp only;rw [hF];have h7:=Nat.mul_le_mul_right B hnel;rw [Nat.add_mul] at h7;omega
   ·rw [hdk];refine .one hget h4' ?_;rw [hmt,←hL',←hF];exact hR
   ·dsimp only;rw [hF];have h7:=Nat.mul_le_mul_right (B+1) hnel;rw [Nat.add_mul] at h7;have h8:L'.length-k'=(L.length-(k+1))+(oneP E.pure m L[k] E.runs[m].1 v).2.length:=by
     have:=congrArg List.length hL';simpa using this
    omega
 ·have hkl:L.length≤k:=by simp at h3;omega
  refine⟨E,rfl,hEo.tail,hE _ ?_,hEw,hEl⟩;rw [List.drop_of_length_le hkl];exact EndR.nil _
theorem Rd.load {P:Program} {tb:Tb} (htb:TbOk P tb) {t:Nat} {ti:TI} (ht:tbl tb t=some ti) {o:Oper} {x:Operand} (ho:o.op=.load t x) {ev:Operand→Value} {h:Hp} {K:Value→Prop} {r:Row} (hr:RowOk h r) {g off cap:Nat} (hv:r.v=.slice (some ⟨g,0,none⟩) r.n cap)
  (hx:ev x=.pointer (some ⟨g,off,none⟩)) (hl:off+ti.sz≤r.n*r.sz) (v:Value) (hval:(ti.ag=true∧v=.agg ((r.xs.drop off).take ti.sz).toArray)∨(ti.ag=false∧r.xs[off]?=some v∧ti.sz=1)) (k:K v):Rd P (execOp ev o) h K:=by
 have hop:execOp ev o=(do pure (Next.value (←Instr.loadAt t (ev x))):Sem Next):=by unfold execOp;rw [ho]
 rw [hop,hx];refine⟨v,fun w hw=>run_value _ w _ _ ?_,k⟩;rcases hr.2 with⟨h1,_⟩|⟨g',cap',cur,h1,hg,hnc,hcm,hcs,htk⟩
 ·rw [hv] at h1;cases h1
 ·rw [hv] at h1
  cases h1
  have hg':=hw g _ hg;have hsz:r.n*r.sz≤cur.size:=by rw [hcs];exact Nat.mul_le_mul_right _ hnc
  have hrun:=run_load_cells (htb.at_ ht) w g off cur.toList r.e (0,0) (by simpa using hg');rcases hval with⟨ha,rfl⟩|⟨ha,hxo,h1⟩
  ·rw [hrun.1 ha (by simp;omega),row_at htk hl]
  ·refine hrun.2 ha v ?_;rw [←htk,List.getElem?_take] at hxo
   split at hxo
   ·exact hxo
   ·cases hxo
theorem Rd.loadRunCell {t:Nat} {ti:TI} (ht:tbl tbE t=some ti) (hag:ti.ag=false∧ti.sz=1) {o:Oper} {y:Operand} (ho:o.op=.load t y) {ev:Operand→Value} {h:Hp} {K:Value→Prop} {D:WD} (hr:RowOk h (rowR D.rv D.runs)) {g:Nat} (hv:D.rv=.slice (some ⟨g,0,none⟩) D.runs.length D.rk) {i:Nat} (hi:i<D.runs.length) (c:Nat) (hc:c<13)
  (hy:ev y=.pointer (some ⟨g,0+i*13+c,none⟩)) (v:Value) (hcell:(encR D.runs[i])[c]?=some v) (k:K v):Rd Tryz.prog (execOp ev o) h K :=
 Rd.load tbE_ok ht ho hr hv hy (by rw [hag.2];show 0+i*13+c+1≤D.runs.length*13;omega) v (.inr ⟨hag.1,w_cell hi c hc hcell,hag.2⟩) k
theorem Rd.loadVal {o:Oper} {y:Operand} (ho:o.op=.load 32 y) {ev:Operand→Value} {h:Hp} {K:Value→Prop} {v:Value} {L:List (Int×Int)} (hr:RowOk h (rowV v L)) {g cap:Nat} (hv:v=.slice (some ⟨g,0,none⟩) L.length cap) {i:Nat} (hi:i<L.length) (hy:ev y=.pointer (some ⟨g,0+i*2,none⟩)) (k:K (.agg #[.int .i64 L[i].1,.int .i64 L[i].2])):Rd Tryz.prog (execOp ev o) h K :=
 Rd.load tbE_ok rfl ho hr hv hy (by show 0+i*2+2≤L.length*2;omega) (.agg #[.int .i64 L[i].1,.int .i64 L[i].2]) (.inl ⟨rfl,by rw [Nat.zero_add];exact congrArg (fun l=>Value.agg (List.toArray l)) (flat_at encV 2 encV_len L i hi).symm⟩) k
theorem Own.freeze {h:Hp} {r:Row} {l:List Atom} {g n cap:Nat} (o:Own h (.row r::l)) (hv:r.v=.slice (some ⟨g,0,none⟩) n cap):∃ob,h g=some ob∧Own h (.blk g ob::l)∧∀h':Hp,h' g=some ob→RowOk h' r:=by
 have hr:RowOk h r:=o.ok _ List.mem_cons_self;obtain⟨h1,⟨e,_⟩|⟨g',cap',cur,e,hg,hr3⟩⟩:=hr
 ·rw [hv] at e;cases e
 have e2:=hv.symm.trans e
 cases e2
 refine⟨_,hg,⟨fun z hz=>?_,?_⟩,fun h' h2=>⟨h1,.inr ⟨g,cap,cur,e,h2,hr3⟩⟩⟩
 ·rcases List.mem_cons.1 hz with rfl|hz
  ·exact hg
  ·exact o.ok z (List.mem_cons_of_mem _ hz)
 ·have:=o.nd;have hb:(Atom.row r).blk?=some g:=by show r.v.ownBlock=some g;rw [e];rfl
  simp only [List.filterMap_cons,hb] at this;exact this
theorem Own.thaw {h:Hp} {r:Row} {l:List Atom} {g n cap:Nat} {ob:Obj} (o:Own h (.blk g ob::l)) (hv:r.v=.slice (some ⟨g,0,none⟩) n cap) (hr:RowOk h r):Own h (.row r::l):=by
 refine⟨fun z hz=>?_,?_⟩
 ·rcases List.mem_cons.1 hz with rfl|hz
  ·exact hr
  ·exact o.ok z (List.mem_cons_of_mem _ hz)
 ·have:=o.nd;have hb:(Atom.row r).blk?=some g:=by show r.v.ownBlock=some g;rw [hv];rfl
  simp only [List.filterMap_cons,hb];exact this
def oneB (g:Nat) (ob:Obj):Hp:=fun b=>if b=g then some ob else none
theorem oneB_le {g:Nat} {ob:Obj} {h:Hp} (e:h g=some ob):(oneB g ob).le h:=fun b o' hb=>by
 unfold oneB at hb
 split at hb
 ·rename_i h1;subst h1;cases hb;exact e
 ·cases hb
theorem oneB_at (g:Nat) (ob:Obj):oneB g ob g=some ob:=if_pos rfl
def otherQ (w1:PW) (i:Nat) (id:Int) (d:RunD) (o:OpD) (to sv:Int×Int):PW :=
 if o.k==6 then giveP w1 to.2 sv
 else if o.k==12&&!(decide (to.2≤(w1.runs.length:Int))&&((w1.runs.getD (to.2-1).toNat d).st != 3)) then giveP w1 id to
 else if to.2==id||!(decide (to.2≤(w1.runs.length:Int))&&((w1.runs.getD (to.2-1).toNat d).st != 3)) then w1
 else if o.k==12&&!amongP (w1.runs.getD (to.2-1).toNat d).wat id then { w1 with runs:=w1.runs.set (to.2-1).toNat { w1.runs.getD (to.2-1).toNat d with wat:=(w1.runs.getD (to.2-1).toNat d).wat++[id] } }
 else if o.k==11&&!amongP d.links to.2 then { w1 with runs:=(w1.runs.set i { d.next with links:=d.links++[to.2] }).set (to.2-1).toNat { w1.runs.getD (to.2-1).toNat d with links:=(w1.runs.getD (to.2-1).toNat d).links++[id] } }
 else w1
def otherP (w:PW) (i:Nat) (id:Int) (d:RunD) (o:OpD) (to sv:Int×Int):PW:=otherQ { w with runs:=w.runs.set i d.next } i id d o to sv
theorem l21Other_con (D:WD) (B:Nat) (hB:B<999) (hw:D.pure.Wk B) (i:Nat) (hi:i<D.runs.length) (id:Int) (hid:id=(i:Int)+1) (o:OpD) (k:Nat) (hk:k<4) (hr:o.r=(k:Int)) (hpl:∃m:Nat,D.runs[i].1.next.pl=m∧m<D.code.length)
  (hto:∀hk':k<D.runs[i].1.slots.length,D.runs[i].1.slots[k].1=3→1≤D.runs[i].1.slots[k].2) (hos:o.k=6→∃j:Nat,o.s=j∧j<4) (h:Hp) (l:List Atom) (ho:Own h (wAtoms D++l)) :
  Con Tryz.prog 153 #[D.val,.int .i64 id,o.val] h fun r h'=>∃D',r=D'.val∧Own h' (wAtoms D'++l)∧((D.runs[i].1.slots.getD k (0,0)).1≠3∧EndR (2,2) D.pure [id] D'.pure∨(D.runs[i].1.slots.getD k (0,0)).1=3∧D'.pure=otherP D.pure i id D.runs[i].1 o (D.runs[i].1.slots.getD k (0,0)) (D.runs[i].1.slots.getD o.s.toNat (0,0))):=by
 obtain⟨g,hra⟩:=w_ra ho (by omega);have hn6:D.runs.length≤6:=by have:=hw.runs;rw [pure_len] at this;exact this
 have hz:IntKind.i64.wrap (id-1)=(i:Int):=by rw [hid,show (i:Int)+1-1=i by omega];exact wrapN _ (by omega) (by omega)
 have hsl:D.runs[i].1.slots.length=4:=hw.slots _ (pure_mem hi);have hks:k<D.runs[i].1.slots.length:=by omega
 have hto:=hto hks;refine Con.of_W (tb:=tbE) (args:=[D.val,.int .i64 id,o.val]) Tryz.func153 rfl Tryz.results153 Tryz.ntmps153 (by simp) (Tryz.call153 _) (tm:=[(0,.a D.cells),(1,.v (.int .i64 id)),(2,.a o.cells)]) rfl ?_;refine vc_ok ⟨tbE_ok,_,Tryz.func153,Tryz.results153,Tryz.ntmps153⟩ 400 _ _ _ _ ?_;conv=>whnf
 refine Ext.index slRun.u slRun.size rfl (by exact rv_same hra) rfl i hz hi ?_;conv=>whnf
 refine Ext.loadRun (D:=D) rfl (ho.rowOk (by simp [wAtoms])) (rv_same hra) hi rfl ?_;conv=>whnf
 have ho1:=w_open ho i hi;have hsr:RowOk h (rowV (.slice D.runs[i].2.a0 D.runs[i].1.slots.length D.runs[i].2.k0) D.runs[i].1.slots):=ho1.rowOk (by simp [runRows]);obtain⟨gs,has⟩:=row_some hsr (by omega);have hsv:Value.slice D.runs[i].2.a0 D.runs[i].1.slots.length D.runs[i].2.k0=.slice (some ⟨gs,0,none⟩) D.runs[i].1.slots.length D.runs[i].2.k0:=by rw [has]
 refine Ext.index slVal.u slVal.size rfl (by exact hsv) rfl k hr hks ?_;conv=>whnf
 refine Ext.loadVal rfl hsr hsv hks rfl ?_;conv=>whnf
 have hgk:D.runs[i].1.slots.getD k (0,0)=D.runs[i].1.slots[k]:=by rw [List.getD_eq_getElem?_getD,List.getElem?_eq_getElem hks];rfl
 rw [hgk];generalize hgt:D.runs[i].1.slots[k]=to at *;refine⟨fun h2=>?_,fun h2=>?_⟩<;>conv=>whnf
 ·have h2':to.1≠3:=by simpa using h2
  refine(l13End_con D B (by omega) hw i hi id hid (2,2) h l ho).mono ?_;rintro r h3 ⟨D',rfl,ho3,hR,_,_⟩;conv=>whnf
  exact⟨D',rfl,ho3,.inl ⟨h2',hR⟩⟩
 ·have h2':to.1=3:=by simpa using h2
  have hto2:=hto h2';refine W.draw [(0,true),(1,true),(2,true),(3,true),(4,true),(5,false),(6,true),(7,false)] [0,1,2,3,4] none 99 (by kernel_rfl) rfl (by kernel_rfl) mixed rfl (fun g e=>by cases e) ?_;refine vc_ok ⟨tbE_ok,_,Tryz.func153,Tryz.results153,Tryz.ntmps153⟩ 400 _ _ _ _ ?_;conv=>whnf
  refine(l21Next_con _ _ _).mono ?_;rintro r h3 ⟨rfl,rfl⟩;conv=>whnf
  refine Rd.index slRun.u slRun.size rfl (by exact rv_same hra) rfl i hz hi ?_;conv=>whnf
  refine Ext.storeRun (D:=D) rfl hi (rv_same hra) (D.runs[i].1.next,D.runs[i].2) rfl ho1 rfl rfl fun h4 ho4=>?_
  conv=>whnf
  obtain⟨E,hE⟩:∃E:WD,E=D.setRun i (D.runs[i].1.next,D.runs[i].2):=⟨_,rfl⟩;rw [←hE] at ho4;have hEv:E.val=D.val:=by rw [hE];exact w_val D i _
  have hEc:E.cells=D.cells:=by rw [hE];simp [WD.cells]
  have hEl:E.runs.length=D.runs.length:=by rw [hE];simp
  have hEra:E.ra=some ⟨g,0,none⟩:=by rw [hE];exact hra
  have hip:i<D.pure.runs.length:=by rw [pure_len];exact hi
  have hEp:E.pure={ D.pure with runs:=D.pure.runs.set i D.runs[i].1.next }:=by rw [hE];simp [WD.pure,List.map_set]
  have hEw:E.pure.Wk B:=by
   have hm:=pure_mem hi;rw [hEp];refine hw.set i hip D.runs[i].1.next _ hw.q1 (fun x hx=>?_) hpl (hw.slots D.runs[i].1 hm) (hw.mail D.runs[i].1 hm) (hw.linksB D.runs[i].1 hm) (hw.watB D.runs[i].1 hm) (hw.links D.runs[i].1 hm) _ _ _ _;obtain⟨j,e2,d,hd,hs⟩:=hw.q2 _ hx;by_cases e:x=(i:Int)+1
   ·have:i=j:=by omega
    subst this;rw [List.getElem?_eq_getElem hip,pure_get D i hi] at hd
    cases hd
    exact .inl ⟨e,hs⟩
   ·exact .inr ⟨hx,e⟩
  have hO:otherP D.pure i id D.runs[i].1 o to (D.runs[i].1.slots.getD o.s.toNat (0,0))=otherQ E.pure i id D.runs[i].1 o to (D.runs[i].1.slots.getD o.s.toNat (0,0)):=by rw [hEp];rfl
  have hEon:=ho4;have hsr4:RowOk h4 (rowV (.slice D.runs[i].2.a0 D.runs[i].1.slots.length D.runs[i].2.k0) D.runs[i].1.slots):=by
   have h5:=w_open hEon i (by rw [hEl];exact hi);have h6:E.runs[i]'(by rw [hEl];exact hi)=(D.runs[i].1.next,D.runs[i].2):=by simp [hE]
   rw [h6] at h5;exact h5.rowOk (r:=rowV (.slice D.runs[i].2.a0 D.runs[i].1.slots.length D.runs[i].2.k0) D.runs[i].1.slots) (by simp [runRows,RunD.next])
  refine⟨fun h5=>?_,fun h5=>?_⟩<;>conv=>whnf
  ·have hle:to.2≤(D.runs.length:Int):=by simpa using h5
   obtain⟨m,hm⟩:∃m:Nat,to.2=(m:Int)+1:=⟨(to.2-1).toNat,by omega⟩;have hmE:m<E.runs.length:=by omega
   have hzm:IntKind.i64.wrap (to.2-1)=(m:Int):=by rw [hm,show (m:Int)+1-1=m by omega];exact wrapN _ (by omega) (by omega)
   have hmt:(to.2-1).toNat=m:=by omega
   have hmp:m<E.pure.runs.length:=by rw [pure_len];exact hmE
   have hgd:E.pure.runs.getD (to.2-1).toNat D.runs[i].1=E.runs[m].1:=by rw [hmt,List.getD_eq_getElem?_getD,List.getElem?_eq_getElem hmp,pure_get E m hmE];rfl
   refine Ext.index slRun.u slRun.size rfl (by exact rv_same hra) rfl m hzm (by omega) ?_;conv=>whnf
   refine Ext.loadRunCell (D:=E) rfl ⟨rfl,rfl⟩ rfl (ho4.rowOk (by simp [wAtoms])) (rv_same hEra) hmE 5 (by decide) rfl (.int .i64 E.runs[m].1.st) rfl ?_;conv=>whnf
   have hth0:(decide (to.2≤(E.pure.runs.length:Int))&&((E.pure.runs.getD (to.2-1).toNat D.runs[i].1).st != 3))=(E.runs[m].1.st != 3):=by
    rw [hgd,pure_len,hEl,decide_eq_true hle,Bool.true_and]
   cases hb:(E.runs[m].1.st != 3)
   ·have hth:=hth0.trans hb;conv=>whnf
    refine⟨fun h6=>?_,fun h6=>?_⟩<;>conv=>whnf
    ·have h6':o.k=6:=by simpa using h6
     obtain⟨j,hj,hj4⟩:=hos h6';have hjs:j<D.runs[i].1.slots.length:=by omega
     refine W.draw [(0,true),(1,true),(2,true),(3,true),(4,true),(5,true),(6,true),(7,true),(8,false),(9,false),(10,false)] [0,1,2,3,4] none 10 (by kernel_rfl) rfl (by kernel_rfl) mixed rfl (fun g e=>by cases e) ?_;refine vc_ok ⟨tbE_ok,_,Tryz.func153,Tryz.results153,Tryz.ntmps153⟩ 400 _ _ _ _ ?_;conv=>whnf
     refine Rd.index slVal.u slVal.size rfl (by exact hsv) rfl j hj hjs ?_;conv=>whnf
     refine Ext.loadVal rfl hsr4 hsv hjs rfl ?_;conv=>whnf
     have hcon:=give_con E B hEw to.2 D.runs[i].1.slots[j] h4 l ho4;rw [hEv] at hcon;refine Con.mono hcon ?_;rintro r h7 ⟨F,rfl,hoF,hF⟩;conv=>whnf
     refine⟨F,rfl,hoF,.inr ⟨h2',?_⟩⟩;have hsj:D.runs[i].1.slots.getD o.s.toNat (0,0)=D.runs[i].1.slots[j]:=by rw [hj,Int.toNat_natCast,List.getD_eq_getElem?_getD,List.getElem?_eq_getElem hjs];rfl
     rw [hF,hO,otherQ,if_pos h6,hsj]
    ·have hk6:(o.k==6)=false:=h6;refine⟨fun h7=>?_,fun h7=>?_⟩<;>conv=>whnf
     ·refine⟨fun _=>?_,fun e=>(by cases e)⟩;conv=>whnf
      have hcon:=give_con E B hEw id to h4 l ho4;rw [hEv] at hcon;refine Con.mono hcon ?_;rintro r h9 ⟨F,rfl,hoF,hF⟩;conv=>whnf
      refine⟨F,rfl,hoF,.inr ⟨h2',?_⟩⟩;rw [hF,hO,otherQ,if_neg (by rw [hk6];exact Bool.false_ne_true),if_pos (by rw [hth];simpa using h7)]
     ·refine⟨fun h8=>?_,fun h8=>?_⟩<;>conv=>whnf
      ·refine⟨fun _=>?_,fun e=>(by cases e)⟩;conv=>whnf
       refine⟨E,by rw [hEv];rfl,ho4,.inr ⟨h2',?_⟩⟩;rw [hO,otherQ,if_neg (by rw [hk6];exact Bool.false_ne_true),if_neg (by rw [hth];simp [h7]),if_pos (by rw [hth];simp [h8])]
      ·refine⟨E,by rw [hEv];rfl,ho4,.inr ⟨h2',?_⟩⟩;rw [hO,otherQ,if_neg (by rw [hk6];exact Bool.false_ne_true),if_neg (by rw [hth];simp [h7]),if_pos (by rw [hth];simp [h8])]
   ·have hth:=hth0.trans hb;conv=>whnf
    refine⟨fun h6=>?_,fun h6=>?_⟩<;>conv=>whnf
    ·have h6':o.k=6:=by simpa using h6
     obtain⟨j,hj,hj4⟩:=hos h6';have hjs:j<D.runs[i].1.slots.length:=by omega
     refine W.draw [(0,true),(1,true),(2,true),(3,true),(4,true),(5,true),(6,true),(7,true),(8,false),(9,false),(10,false)] [0,1,2,3,4] none 10 (by kernel_rfl) rfl (by kernel_rfl) mixed rfl (fun g e=>by cases e) ?_;refine vc_ok ⟨tbE_ok,_,Tryz.func153,Tryz.results153,Tryz.ntmps153⟩ 400 _ _ _ _ ?_;conv=>whnf
     refine Rd.index slVal.u slVal.size rfl (by exact hsv) rfl j hj hjs ?_;conv=>whnf
     refine Ext.loadVal rfl hsr4 hsv hjs rfl ?_;conv=>whnf
     have hcon:=give_con E B hEw to.2 D.runs[i].1.slots[j] h4 l ho4;rw [hEv] at hcon;refine Con.mono hcon ?_;rintro r h7 ⟨F,rfl,hoF,hF⟩;conv=>whnf
     refine⟨F,rfl,hoF,.inr ⟨h2',?_⟩⟩;have hsj:D.runs[i].1.slots.getD o.s.toNat (0,0)=D.runs[i].1.slots[j]:=by rw [hj,Int.toNat_natCast,List.getD_eq_getElem?_getD,List.getElem?_eq_getElem hjs];rfl
     rw [hF,hO,otherQ,if_pos h6,hsj]
    ·have hk6:(o.k==6)=false:=h6;refine⟨fun h7=>?_,fun h7=>?_⟩<;>conv=>whnf
     ·refine⟨fun e=>(by cases e),fun _=>?_⟩;conv=>whnf
      refine⟨fun h8=>?_,fun h8=>?_⟩<;>conv=>whnf
      ·refine⟨fun e=>(by cases e),fun _=>?_⟩;conv=>whnf
       refine⟨fun _=>?_,fun e=>(by rw [h7] at e;cases e)⟩;conv=>whnf
       refine Ext.index slRun.u slRun.size rfl (by exact rv_same hra) rfl m hzm (by omega) ?_;conv=>whnf
       refine Ext.loadRunCell (D:=E) rfl ⟨rfl,rfl⟩ rfl (ho4.rowOk (by simp [wAtoms])) (rv_same hEra) hmE 8 (by decide) rfl (.slice E.runs[m].2.a3 E.runs[m].1.wat.length E.runs[m].2.k3) rfl ?_;conv=>whnf
       have hop:=w_wat (w_open ho4 m hmE);have hwb:E.runs[m].1.wat.length≤B:=hEw.watB _ (pure_mem hmE);refine(l11Among_con E.runs[m].2.a3 E.runs[m].2.k3 E.runs[m].1.wat id (by omega) h4 (hop.ok _ List.mem_cons_self)).mono ?_;rintro r h9 ⟨rfl,rfl⟩;conv=>whnf
       refine⟨fun h10=>?_,fun h10=>?_⟩<;>conv=>whnf
       ·obtain⟨ob,hob,hfr,hrob⟩:=Own.freeze (hop.swap) (rv_same hEra);refine W.draw [(0,true),(1,true),(2,true),(3,true),(4,true),(5,true),(6,true),(7,true),(8,true),(9,true),(10,true),(11,true),(12,true),(13,true),(14,false),(15,false),(16,false),(17,true),(18,false)] [0,1,2,3,4] (some (oneB g ob)) 18 (by kernel_rfl) rfl (by kernel_rfl) mixed rfl (fun g e=>by cases e;exact oneB_le hob) ?_;refine vc_ok ⟨tbE_ok,_,Tryz.func153,Tryz.results153,Tryz.ntmps153⟩ 400 _ _ _ _ ?_;conv=>whnf
        refine Rd.index slRun.u slRun.size rfl (by exact rv_same hra) rfl m hzm (by omega) ?_;conv=>whnf
        refine Rd.loadRunCell (D:=E) rfl ⟨rfl,rfl⟩ rfl (hrob _ (oneB_at g ob)) (rv_same hEra) hmE 8 (by decide) rfl (.slice E.runs[m].2.a3 E.runs[m].1.wat.length E.runs[m].2.k3) rfl ?_;conv=>whnf
        refine Ext.litI rfl hfr.swap id rfl fun g11 h11 le11 ho11=>?_
        conv=>whnf
        refine⟨oneB_le (le11 _ _ hob),?_⟩;conv=>whnf
        refine Ext.pushI rfl ho11 rfl rfl (by omega) fun wa wk h12 ho12=>?_
        conv=>whnf
        have hob12:h12 g=some ob:=ho12.ok (.blk g ob) (by simp);have ho12:=(Own.thaw ho12.swap (r:=rowR E.rv E.runs) (rv_same hEra) (hrob _ hob12)).swap;refine⟨oneB_le hob12,?_⟩;conv=>whnf
        refine Ext.index slRun.u slRun.size rfl (by exact rv_same hra) rfl m hzm (by omega) ?_;conv=>whnf
        refine⟨oneB_le hob12,?_⟩;conv=>whnf
        refine Ext.storeRunCell (D:=E) rfl rfl rfl hmE (rv_same hEra) 8 (by decide) (.slice wa (E.runs[m].1.wat++[id]).length wk) rfl rfl ({ E.runs[m].1 with wat:=E.runs[m].1.wat++[id] },{ E.runs[m].2 with a3:=wa,k3:=wk }) rfl rfl (w_watR (y:=({ E.runs[m].1 with wat:=E.runs[m].1.wat++[id] },{ E.runs[m].2 with a3:=wa,k3:=wk })) ho12) rfl rfl fun h13 ho13=>?_
        conv=>whnf
        refine⟨_,by rw [w_val,hEv];rfl,ho13,.inr ⟨h2',?_⟩⟩;rw [hO,otherQ,if_neg (by rw [hk6];exact Bool.false_ne_true),if_neg (by rw [hth];simp),if_neg (by rw [hth];simp [h8]),hgd,if_pos (by rw [h7,h10];rfl),hmt];simp [WD.pure,List.map_set]
       ·refine⟨fun e=>(by have e1:o.k=12:=(by simpa using h7);rw [e1] at e;cases e),fun _=>?_⟩;conv=>whnf
        refine⟨E,by rw [hEv];rfl,ho4,.inr ⟨h2',?_⟩⟩;have e11:(o.k==11)=false:=by have e1:o.k=12:=(by simpa using h7);rw [e1];rfl
        rw [hO,otherQ,if_neg (by rw [hk6];exact Bool.false_ne_true),if_neg (by rw [hth];simp),if_neg (by rw [hth];simp [h8]),hgd,if_neg (by rw [h10];simp),if_neg (by rw [e11];simp)]
      ·refine⟨E,by rw [hEv];rfl,ho4,.inr ⟨h2',?_⟩⟩;rw [hO,otherQ,if_neg (by rw [hk6];exact Bool.false_ne_true),if_neg (by rw [hth];simp []),if_pos (by rw [hth];simp [h8])]
     ·refine⟨fun h8=>?_,fun h8=>?_⟩<;>conv=>whnf
      ·refine⟨fun e=>(by cases e),fun _=>?_⟩;conv=>whnf
       refine⟨fun e=>(by rw [h7] at e;cases e),fun _=>?_⟩;conv=>whnf
       refine⟨fun h9=>?_,fun h9=>?_⟩<;>conv=>whnf
       ·have hiE:i<E.runs.length:=by omega
        have hEi:E.runs[i]=(D.runs[i].1.next,D.runs[i].2):=by simp [hE]
        have hlE:RowOk h4 (rowI (.slice D.runs[i].2.a2 D.runs[i].1.links.length D.runs[i].2.k2) D.runs[i].1.links):=by
         have h5:=w_open ho4 i hiE;rw [hEi] at h5;exact h5.rowOk (r:=rowI (.slice D.runs[i].2.a2 D.runs[i].1.links.length D.runs[i].2.k2) D.runs[i].1.links) (by simp [runRows,RunD.next])
        have hlb:D.runs[i].1.links.length≤B:=hw.linksB _ (pure_mem hi);refine(l11Among_con D.runs[i].2.a2 D.runs[i].2.k2 D.runs[i].1.links to.2 (by omega) h4 hlE).mono ?_;rintro r h10 ⟨rfl,rfl⟩;conv=>whnf
        refine⟨fun hna=>?_,fun hna=>?_⟩<;>conv=>whnf
        ·have hopp:=w_lnk (w_open ho4 i hiE);obtain⟨obp,hobp,hfrp,hrobp⟩:=Own.freeze (hopp.swap) (rv_same hEra);refine W.draw [(0,true),(1,true),(2,true),(3,true),(4,true),(5,true),(6,true),(7,true),(8,true),(9,true),(10,true),(11,true),(12,true),(13,false),(14,false),(15,false),(16,true),(17,false)] [0,1,2,3,4] (some (oneB g obp)) 17 (by kernel_rfl) rfl (by kernel_rfl) mixed rfl (fun g e=>by cases e;exact oneB_le hobp) ?_;refine vc_ok ⟨tbE_ok,_,Tryz.func153,Tryz.results153,Tryz.ntmps153⟩ 400 _ _ _ _ ?_;conv=>whnf
         refine Rd.index slRun.u slRun.size rfl (by exact rv_same hra) rfl i hz (by omega) ?_;conv=>whnf
         refine Rd.loadRunCell (D:=E) rfl ⟨rfl,rfl⟩ rfl (hrobp _ (oneB_at g obp)) (rv_same hEra) hiE 7 (by decide) rfl (.slice (E.runs[i]'hiE).2.a2 (E.runs[i]'hiE).1.links.length (E.runs[i]'hiE).2.k2) rfl ?_;conv=>whnf
         refine Ext.litI rfl hfrp.swap to.2 rfl fun g11 h11 le11 ho11=>?_
         conv=>whnf
         refine⟨oneB_le (le11 _ _ hobp),?_⟩;conv=>whnf
         have hlbp:(E.runs[i]'hiE).1.links.length<1000000:=by rw [hEi];show D.runs[i].1.links.length<_;omega
         refine Ext.pushI rfl ho11 rfl rfl hlbp fun lap lkp h12p ho12p=>?_
         conv=>whnf
         have hob12p:h12p g=some obp:=ho12p.ok (.blk g obp) (by simp);have hozp:=(Own.thaw ho12p.swap (r:=rowR E.rv E.runs) (rv_same hEra) (hrobp _ hob12p)).swap;refine⟨oneB_le hob12p,?_⟩;conv=>whnf
         refine Ext.index slRun.u slRun.size rfl (by exact rv_same hra) rfl i hz (by omega) ?_;conv=>whnf
         refine⟨oneB_le hob12p,?_⟩;conv=>whnf
         obtain⟨yp,hyp⟩:∃y:RunD×RunP,y=({ (E.runs[i]'hiE).1 with links:=(E.runs[i]'hiE).1.links++[to.2] },{ (E.runs[i]'hiE).2 with a2:=lap,k2:=lkp }):=⟨_,rfl⟩;refine Ext.storeRunCell (D:=E) rfl rfl rfl hiE (rv_same hEra) 7 (by decide) (.slice lap ((E.runs[i]'hiE).1.links++[to.2]).length lkp) rfl rfl yp (by subst hyp;rfl) rfl (by subst hyp;exact w_lnkR (y:=({ (E.runs[i]'hiE).1 with links:=(E.runs[i]'hiE).1.links++[to.2] },{ (E.runs[i]'hiE).2 with a2:=lap,k2:=lkp })) hozp) rfl rfl fun h13p ho13p=>?_
         conv=>whnf
         have hmi:m≠i:=fun e=>by subst e;rw [hid,hm] at h8;simp at h8
         have hmG:m<(E.setRun i yp).runs.length:=by simpa using hmE
         have hGm:(E.setRun i yp).runs[m]=E.runs[m]:=by simp [List.getElem_set_ne (Ne.symm hmi)]
         have hlbm:E.runs[m].1.links.length≤B:=hEw.linksB _ (pure_mem hmE);have hopq:=w_lnk (w_open ho13p m hmG);obtain⟨obq,hobq,hfrq,hrobq⟩:=Own.freeze (hopq.swap) (rv_same hEra);refine W.draw [(0,true),(1,true),(2,true),(3,true),(4,true),(5,true),(6,true),(7,true),(8,true),(9,true),(10,true),(11,true),(12,true),(13,true),(14,false),(15,false),(16,false),(17,true),(18,false)] [0,1,2,3,4] (some (oneB g obq)) 18 (by kernel_rfl) rfl (by kernel_rfl) mixed rfl (fun g e=>by cases e;exact oneB_le hobq) ?_;refine vc_ok ⟨tbE_ok,_,Tryz.func153,Tryz.results153,Tryz.ntmps153⟩ 400 _ _ _ _ ?_;conv=>whnf
         refine Rd.index slRun.u slRun.size rfl (by exact rv_same hra) rfl m hzm (by omega) ?_;conv=>whnf
         refine Rd.loadRunCell (D:=(E.setRun i yp)) rfl ⟨rfl,rfl⟩ rfl (hrobq _ (oneB_at g obq)) (rv_same hEra) hmG 7 (by decide) rfl (.slice ((E.setRun i yp).runs[m]'hmG).2.a2 ((E.setRun i yp).runs[m]'hmG).1.links.length ((E.setRun i yp).runs[m]'hmG).2.k2) rfl ?_;conv=>whnf
         refine Ext.litI rfl hfrq.swap id rfl fun g11 h11 le11 ho11=>?_
         conv=>whnf
         refine⟨oneB_le (le11 _ _ hobq),?_⟩;conv=>whnf
         have hlbq:((E.setRun i yp).runs[m]'hmG).1.links.length<1000000:=by rw [hGm];omega
         refine Ext.pushI rfl ho11 rfl rfl hlbq fun laq lkq h12q ho12q=>?_
         conv=>whnf
         have hob12q:h12q g=some obq:=ho12q.ok (.blk g obq) (by simp);have hozq:=(Own.thaw ho12q.swap (r:=rowR (E.setRun i yp).rv (E.setRun i yp).runs) (rv_same hEra) (hrobq _ hob12q)).swap;refine⟨oneB_le hob12q,?_⟩;conv=>whnf
         refine Ext.index slRun.u slRun.size rfl (by exact rv_same hra) rfl m hzm (by omega) ?_;conv=>whnf
         refine⟨oneB_le hob12q,?_⟩;conv=>whnf
         obtain⟨yq,hyq⟩:∃y:RunD×RunP,y=({ ((E.setRun i yp).runs[m]'hmG).1 with links:=((E.setRun i yp).runs[m]'hmG).1.links++[id] },{ ((E.setRun i yp).runs[m]'hmG).2 with a2:=laq,k2:=lkq }):=⟨_,rfl⟩;refine Ext.storeRunCell (D:=(E.setRun i yp)) rfl rfl rfl hmG (rv_same hEra) 7 (by decide) (.slice laq (((E.setRun i yp).runs[m]'hmG).1.links++[id]).length lkq) rfl rfl yq (by subst hyq;rfl) rfl (by subst hyq;exact w_lnkR (y:=({ ((E.setRun i yp).runs[m]'hmG).1 with links:=((E.setRun i yp).runs[m]'hmG).1.links++[id] },{ ((E.setRun i yp).runs[m]'hmG).2 with a2:=laq,k2:=lkq })) hozq) rfl rfl fun h13q ho13q=>?_
         conv=>whnf
         refine⟨_,by rw [w_val,w_val,hEv];rfl,ho13q,.inr ⟨h2',?_⟩⟩;rw [hO,otherQ,if_neg (by rw [hk6];exact Bool.false_ne_true),if_neg (by rw [hth];simp),if_neg (by rw [hth];simp [h8]),if_neg (by rw [h7];simp),if_pos (by rw [h9,hna];rfl),hgd,hmt];subst hyq;rw [hGm];subst hyp;rw [hEi];simp [WD.pure,List.map_set,RunD.next]
        ·refine⟨E,by rw [hEv];rfl,ho4,.inr ⟨h2',?_⟩⟩;rw [hO,otherQ,if_neg (by rw [hk6];exact Bool.false_ne_true),if_neg (by rw [hth];simp),if_neg (by rw [hth];simp [h8]),if_neg (by rw [h7];simp),if_neg (by rw [hna];simp)]
       ·refine⟨E,by rw [hEv];rfl,ho4,.inr ⟨h2',?_⟩⟩;rw [hO,otherQ,if_neg (by rw [hk6];exact Bool.false_ne_true),if_neg (by rw [hth];simp),if_neg (by rw [hth];simp [h8]),if_neg (by rw [h7];simp),if_neg (by rw [h9];simp)]
      ·refine⟨E,by rw [hEv];rfl,ho4,.inr ⟨h2',?_⟩⟩;rw [hO,otherQ,if_neg (by rw [hk6];exact Bool.false_ne_true),if_neg (by rw [hth];simp [h7]),if_pos (by rw [hth];simp [h8])]
  ·have hle:¬to.2≤(D.runs.length:Int):=by simpa using h5
   have hth:(decide (to.2≤(E.pure.runs.length:Int))&&((E.pure.runs.getD (to.2-1).toNat D.runs[i].1).st != 3))=false:=by
    rw [pure_len,hEl,decide_eq_false hle,Bool.false_and]
   refine⟨fun h6=>?_,fun h6=>?_⟩<;>conv=>whnf
   ·have h6':o.k=6:=by simpa using h6
    obtain⟨j,hj,hj4⟩:=hos h6';have hjs:j<D.runs[i].1.slots.length:=by omega
    refine W.draw [(0,true),(1,true),(2,true),(3,true),(4,true),(5,true),(6,true),(7,true),(8,false),(9,false),(10,false)] [0,1,2,3,4] none 10 (by kernel_rfl) rfl (by kernel_rfl) mixed rfl (fun g e=>by cases e) ?_;refine vc_ok ⟨tbE_ok,_,Tryz.func153,Tryz.results153,Tryz.ntmps153⟩ 400 _ _ _ _ ?_;conv=>whnf
    refine Rd.index slVal.u slVal.size rfl (by exact hsv) rfl j hj hjs ?_;conv=>whnf
    refine Ext.loadVal rfl hsr4 hsv hjs rfl ?_;conv=>whnf
    have hcon:=give_con E B hEw to.2 D.runs[i].1.slots[j] h4 l ho4;rw [hEv] at hcon;refine Con.mono hcon ?_;rintro r h7 ⟨F,rfl,hoF,hF⟩;conv=>whnf
    refine⟨F,rfl,hoF,.inr ⟨h2',?_⟩⟩;have hsj:D.runs[i].1.slots.getD o.s.toNat (0,0)=D.runs[i].1.slots[j]:=by rw [hj,Int.toNat_natCast,List.getD_eq_getElem?_getD,List.getElem?_eq_getElem hjs];rfl
    rw [hF,hO,otherQ,if_pos h6,hsj]
   ·have hk6:(o.k==6)=false:=h6;refine⟨fun h7=>?_,fun h7=>?_⟩<;>conv=>whnf
    ·have hcon:=give_con E B hEw id to h4 l ho4;rw [hEv] at hcon;refine Con.mono hcon ?_;rintro r h9 ⟨F,rfl,hoF,hF⟩;conv=>whnf
     refine⟨F,rfl,hoF,.inr ⟨h2',?_⟩⟩;rw [hF,hO,otherQ,if_neg (by rw [hk6];exact Bool.false_ne_true),if_pos (by rw [hth];simpa using h7)]
    ·refine⟨fun h8=>?_,fun h8=>?_⟩<;>conv=>whnf
     ·refine⟨E,by rw [hEv];rfl,ho4,.inr ⟨h2',?_⟩⟩;rw [hO,otherQ,if_neg (by rw [hk6];exact Bool.false_ne_true),if_neg (by rw [hth];simp [h7]),if_pos (by rw [hth];simp [h8])]
     ·refine⟨E,by rw [hEv];rfl,ho4,.inr ⟨h2',?_⟩⟩;rw [hO,otherQ,if_neg (by rw [hk6];exact Bool.false_ne_true),if_neg (by rw [hth];simp [h7]),if_pos (by rw [hth];simp [h8])]
end Go.Proofs.YtgmkmeodimmdoaaGreatDoor
