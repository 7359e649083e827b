import Derived.Test.YtbejochaghmmbaaGreatDoorRexWi
namespace Go.Proofs.YtbejochaghmmbaaGreatDoor
open Go.RowKit
set_option maxRecDepth 100000
theorem Ext.pushIs {o:Oper} {s y:Operand} (ho:o.op=.call { callee:=.builtin .append,args:=#[s,y],argTypes:=#[26,26] }) {ev:Operand→Value} {h:Hp} {K:Option Value→Hp→Prop} {l:List Atom} {tv v:Value} {L M:List Int}
  (hown:Own h (.row (rowI v L)::l)) (hm:RowOk h (rowI tv M)) (hs:ev s=v) (hy:ev y=tv) (hn:L.length+M.length<1000000) (k:∀a c h',Own h' (.row (rowI (.slice a (L++M).length c) (L++M))::l)→K (some (.slice a (L++M).length c)) h'):Ext Tryz.prog (execOp ev o) h K:=by
 refine Ext.append slInt ho hown rfl rfl hs hy (RowOk.src (r:=rowI tv M) hm (fun u hu=>by obtain⟨x,_,hx⟩:=List.mem_flatMap.1 hu;rw [List.mem_singleton.1 hx];rfl)) (by show (L.length+M.length)*8≤_;omega) (by show L.length+M.length≤_;unfold maxLen;omega) fun v' h' ho1=>?_
 have e:(⟨3,1,v',L.length+M.length,L.flatMap encI++M.flatMap encI⟩:Row)=rowI v' (L++M):=by simp [rowI]
 have ho2:Own h' (.row (rowI v' (L++M))::l):=by rw [←e];exact ho1
 obtain⟨a,c,hv⟩:=RowOk.form' (ho2.ok _ List.mem_cons_self)
 dsimp only at hv
 subst hv
 exact k a c h' ho2
theorem Ext.pushRs {o:Oper} {s y:Operand} (ho:o.op=.call { callee:=.builtin .append,args:=#[s,y],argTypes:=#[25,25] }) {ev:Operand→Value} {h:Hp} {K:Option Value→Hp→Prop} {l:List Atom} {tv v:Value} {L M:List (RunD×RunP)}
  (hown:Own h (.row (rowR v L)::l)) (hm:RowOk h (rowR tv M)) (hs:ev s=v) (hy:ev y=tv) (hn:L.length+M.length<1000000) (k:∀a c h',Own h' (.row (rowR (.slice a (L++M).length c) (L++M))::l)→K (some (.slice a (L++M).length c)) h'):Ext Tryz.prog (execOp ev o) h K:=by
 refine Ext.append slRun ho hown rfl rfl hs hy (RowOk.src (r:=rowR tv M) hm (fun u hu=>by obtain⟨x,_,hx⟩:=List.mem_flatMap.1 hu;exact one_run x u hx)) (by show (L.length+M.length)*168≤_;omega) (by show L.length+M.length≤_;unfold maxLen;omega) fun v' h' ho1=>?_
 have e:(⟨39,13,v',L.length+M.length,L.flatMap encR++M.flatMap encR⟩:Row)=rowR v' (L++M):=by simp [rowR]
 have ho2:Own h' (.row (rowR v' (L++M))::l):=by rw [←e];exact ho1
 obtain⟨a,c,hv⟩:=RowOk.form' (ho2.ok _ List.mem_cons_self)
 dsimp only at hv
 subst hv
 exact k a c h' ho2
theorem Ext.litI0 {o:Oper} (ho:o.op=.buildSlice 26 0 #[]) {ev:Operand→Value} {h:Hp} {K:Option Value→Hp→Prop} {l:List Atom} (hown:Own h l) (k:∀g h',h.le h'→Own h' (.row (rowI (.slice (some ⟨g,0,none⟩) 0 0) [])::l)→K (some (.slice (some ⟨g,0,none⟩) 0 0)) h'):Ext Tryz.prog (execOp ev o) h K :=
 Ext.buildSlice slInt ho hown [] (fun w=>⟨_,Tryz.zeroValue3 w,by kernel_rfl⟩) [] rfl rfl (by decide) k
theorem Ext.litR0 {o:Oper} (ho:o.op=.buildSlice 25 0 #[]) {ev:Operand→Value} {h:Hp} {K:Option Value→Hp→Prop} {l:List Atom} (hown:Own h l) (k:∀g h',h.le h'→Own h' (.row (rowR (.slice (some ⟨g,0,none⟩) 0 0) [])::l)→K (some (.slice (some ⟨g,0,none⟩) 0 0)) h'):Ext Tryz.prog (execOp ev o) h K :=
 Ext.buildSlice slRun ho hown [] (fun w=>⟨_,Tryz.zeroValue39 w,by kernel_rfl⟩) [] rfl rfl (by decide) k
theorem more_no {w:PW} (hq:0<w.queue.length):¬WOk { w with queue:=w.queue++[w.queue[0]] }:=fun⟨_,_,_,f⟩=>by
 have h:=((idsB_iff 0 _).1 f.ids).2
 have h2:(w.queue++[w.queue[0]]).Nodup:=h
 rw [List.nodup_append] at h2
 exact h2.2.2 _ (List.getElem_mem hq) _ (by simp) rfl
theorem less_no {w:PW} {V:List Int} (ok:OkS w V) (hq:0<w.queue.length):¬WOk { w with queue:=w.queue.tail }:=fun⟨_,_,_,f⟩=>by
 obtain⟨q1,qn⟩:=(idsB_iff 0 w.queue).1 ok.ids
 have hm:w.queue[0]∈w.queue:=List.getElem_mem hq
 obtain⟨i,hi⟩:∃i:Nat,w.queue[0]=(i:Int)+1:=⟨(w.queue[0]-1).toNat,by have:=(q1 _ hm).1;omega⟩
 have hlt:i<w.runs.length:=by have:=ok.qn _ hm;omega
 have k1:=(ok.fit i hlt).q
 rw [(ok.fit i hlt).id,←hi,among_mem.2 hm] at k1
 have k2:=(f.fit i hlt).q
 have k3:amongP w.queue.tail w.runs[i].id=(w.runs[i].st==1):=k2
 rw [(ok.fit i hlt).id,←hi,←k1,among_mem] at k3
 cases hQ:w.queue with
 | nil=>rw [hQ] at hq;simp at hq
 | cons x L =>
  simp only [hQ,List.tail_cons,List.getElem_cons_zero] at k3 qn
  exact(List.nodup_cons.1 qn).1 k3
theorem ints_tail {S:Nat} {w:World} {g k k':Nat} {L:List Int} (hL:0<L.length) (h:Eld.Ints S w (.slice (some ⟨g,0,none⟩) L.length k) L):Eld.Ints S w (.slice (some ⟨g,1,none⟩) L.tail.length k') L.tail:=by
 obtain⟨ao,cap,e,h1 | ⟨b,o,ha,hb,hc⟩⟩:=h
 ·rw [h1] at hL;simp at hL
 ·cases e
  cases ha
  refine⟨_,_,rfl,.inr ⟨g,1,rfl,hb,fun i hi=>?_⟩⟩
  rw [List.length_tail] at hi
  have:=hc (i+1) (by omega)
  rw [Nat.zero_add] at this
  rw [List.getElem_tail,Nat.add_comm 1 i]
  exact this
end Go.Proofs.YtbejochaghmmbaaGreatDoor
