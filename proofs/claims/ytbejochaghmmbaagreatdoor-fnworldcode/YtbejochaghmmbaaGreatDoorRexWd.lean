import Derived.Test.YtbejochaghmmbaaGreatDoorRexWc
namespace Go.Proofs.YtbejochaghmmbaaGreatDoor
open Go.RowKit
set_option maxRecDepth 100000
def WOk (w:PW):Prop:=Eld.SafeOf (w.code.map OpD.toV) true∧∃V,Eld.IsFull (w.code.map OpD.toV) V∧OkS w V
theorem wok_full {w:PW} (h:WOk w) {V:List Int} (hV:Eld.IsFull (w.code.map OpD.toV) V):OkS w V:=by
 obtain⟨_,U,hU,ho⟩:=h
 rw [Eld.full_one hV hU]
 exact ho
theorem in_no {lo n hi:Int} (h:(!(decide (lo≤n)&&decide (n≤hi)))=true):¬(lo≤n∧n≤hi):=fun k=>by
 rw [decide_eq_true k.1,decide_eq_true k.2] at h
 cases h
theorem in_yes {lo n hi:Int} (h:(!(decide (lo≤n)&&decide (n≤hi)))=false):lo≤n∧n≤hi:=by simpa using h
theorem full_bd {C:List Eld.OpV} {V:List Int} (h:Eld.IsFull C V) (k:Nat):Eld.Bd (Eld.atV V k):=h.1.1.2 k
theorem safeOf_ok {C:List Eld.OpV} (h:Eld.SafeOf C true):Eld.codeB C=true:=by
 rcases h with ⟨h,_⟩ | ⟨_,h⟩
 ·exact h
 ·cases h
theorem mails_take (L:List RunD) (i:Nat) (hi:i<L.length):mailsP (L.take (i+1))=mailsP (L.take i)+L[i].mail.length:=by
 unfold mailsP
 rw [List.take_succ_eq_append_getElem hi,List.map_append,List.sum_append]
 simp
theorem mails_le {L:List RunD} (h:∀d∈L,d.mail.length≤1000):∀i,mailsP (L.take i)≤i*1000
 | 0=>by simp [mailsP]
 | i+1=>by
  by_cases hi:i<L.length
  ·rw [mails_take L i hi]
   have:=mails_le h i
   have:=h _ (List.getElem_mem hi)
   omega
  ·have e:L.take (i+1)=L.take i:=by rw [List.take_of_length_le (by omega),List.take_of_length_le (by omega)]
   rw [e]
   have:=mails_le h i
   omega
theorem sWorldOk_con (D:WD) (hsm:D.pure.Sm) (h:Hp) (hw:WIn h D) :
  Con Tryz.prog 23 #[D.val] h fun r h'=>(∃b,r=.bool b∧(b=true↔WOk D.pure))∧h'=h:=by
 refine Con.keep ?_
 have hn:D.runs.length≤1000:=by have:=hsm.runs;rw [pure_len] at this;exact this
 have hC:D.code.length≤1000:=hsm.code
 have hQ:D.queue.length≤1000:=hsm.queue
 refine Con.of_W (tb:=tbE) (args:=[D.val]) Tryz.func23 rfl Tryz.results23 Tryz.ntmps23 (by simp) (Tryz.call23 _) (tm:=[(0,.a D.cells)]) rfl ?_
 refine vc_ok ⟨tbE_ok,_,Tryz.func23,Tryz.results23,Tryz.ntmps23⟩ 400 _ _ _ _ ?_
 conv=>whnf
 refine(codeSafe_con D.ca D.ck D.code (by omega) h hw.code).mono ?_
 rintro r h1 ⟨⟨sb,rfl,hsafe⟩,rfl⟩
 conv=>whnf
 refine⟨fun b0=>?_,fun b0=>?_⟩<;>conv=>whnf
 rotate_left
 ·have hs0:sb=false:=by simpa using b0
  exact⟨⟨false,rfl,fun e=>(by cases e),fun f=>by rw [hs0] at hsafe;have:=Eld.safeOf_one hsafe f.1;cases this⟩,Hp.le_refl _⟩
 have hs0:sb=true:=by simpa using b0
 subst hs0
 refine(l6In_con _ _ _ h1).mono ?_
 rintro r h1 ⟨rfl,rfl⟩
 conv=>whnf
 refine⟨fun b1=>?_,fun b1=>?_⟩<;>conv=>whnf
 rotate_left
 ·exact⟨⟨false,rfl,fun e=>(by cases e),fun⟨_,V,_,f⟩=>absurd (show (1:Int)≤D.runs.length∧(D.runs.length:Int)≤6 from by have h1:=f.n1;have h2:=f.n6;rw [pure_len] at h1 h2;omega) (in_no b1)⟩,Hp.le_refl _⟩
 refine(l6In_con _ _ _ h1).mono ?_
 rintro r h1 ⟨rfl,rfl⟩
 conv=>whnf
 refine⟨fun b2=>?_,fun b2=>?_⟩<;>conv=>whnf
 rotate_left
 ·exact⟨⟨false,rfl,fun e=>(by cases e),fun⟨_,V,_,f⟩=>absurd f.cnt.now (in_no b2)⟩,Hp.le_refl _⟩
 refine(l6In_con _ _ _ h1).mono ?_
 rintro r h1 ⟨rfl,rfl⟩
 conv=>whnf
 refine⟨fun b3=>?_,fun b3=>?_⟩<;>conv=>whnf
 rotate_left
 ·exact⟨⟨false,rfl,fun e=>(by cases e),fun⟨_,V,_,f⟩=>absurd f.cnt.sent (in_no b3)⟩,Hp.le_refl _⟩
 refine(l6In_con _ _ _ h1).mono ?_
 rintro r h1 ⟨rfl,rfl⟩
 conv=>whnf
 refine⟨fun b4=>?_,fun b4=>?_⟩<;>conv=>whnf
 rotate_left
 ·exact⟨⟨false,rfl,fun e=>(by cases e),fun⟨_,V,_,f⟩=>absurd f.cnt.taken (in_no b4)⟩,Hp.le_refl _⟩
 refine(l6In_con _ _ _ h1).mono ?_
 rintro r h1 ⟨rfl,rfl⟩
 conv=>whnf
 refine⟨fun b5=>?_,fun b5=>?_⟩<;>conv=>whnf
 rotate_left
 ·exact⟨⟨false,rfl,fun e=>(by cases e),fun⟨_,V,_,f⟩=>absurd f.cnt.lost (in_no b5)⟩,Hp.le_refl _⟩
 refine(ids_con 0 D.qa D.qk D.queue (by omega) h1 hw.queue).mono ?_
 rintro r h1 ⟨rfl,rfl⟩
 conv=>whnf
 refine⟨fun b6=>?_,fun b6=>?_⟩<;>conv=>whnf
 ·exact⟨⟨false,rfl,fun e=>(by cases e),fun⟨_,V,_,f⟩=>absurd (show Eld.idsB 0 D.queue=true from f.ids) (by simpa using b6)⟩,Hp.le_refl _⟩
 have hcb:=safeOf_ok hsafe
 have i1:=in_yes b1
 have hcnt:CntP D.pure:=⟨in_yes b2,in_yes b3,in_yes b4,in_yes b5⟩
 have hids:Eld.idsB 0 D.queue=true:=by simpa using b6
 clear b0 b1 b2 b3 b4 b5 b6
 refine(fullS_con D.ca D.ck D.code hcb h1 [] (Own.nil h1) hw.code).mono ?_
 rintro r h2 ⟨V,fa,fk,rfl,hfull,hle,ho2⟩
 have hw2:=hw.le hle
 have hV:RowOk h2 (rowI (.slice fa V.length fk) V):=ho2.rowOk List.mem_cons_self
 have hVl:V.length=D.code.length:=by rw [hfull.1.1.1,List.length_map]
 have hVb:=full_bd hfull
 clear ho2 hw
 conv=>whnf
 refine W.cut [(1,.p 0 0),(3,.v (.slice fa V.length fk)),(4,.v (.int .i64 (0:Nat))),(5,.v (.int .i64 (0:Nat)))] [⟨28,D.cells⟩] [] ⟨rfl,rfl,rfl,rfl,trivial⟩ rfl rfl ⟨_,rfl⟩ ?_
 have hml:∀d∈D.pure.runs,d.mail.length≤1000:=fun d hd=>(hsm.each d hd).s1
 have hlenP:=pure_len D
 refine W.loop (α:=Nat) (fun i=>[(1,.p 0 0),(3,.v (.slice fa V.length fk)),(4,.v (.int .i64 (mailsP (D.pure.runs.take i):Nat))),(5,.v (.int .i64 (i:Nat)))]) (fun _=>[⟨28,D.cells⟩]) (fun i h'=>i≤D.runs.length∧(∀j (hj:j<D.pure.runs.length),j<i→FitS D.pure V j D.pure.runs[j])∧h'=h2) (fun i=>D.runs.length-i) ?_ 0 h2 ⟨Nat.zero_le _,fun j _ hj=>absurd hj (Nat.not_lt_zero _),rfl⟩
 rintro i h5 ⟨hi,hfit,rfl⟩ ih
 refine vc_ok ⟨tbE_ok,_,Tryz.func23,Tryz.results23,Tryz.ntmps23⟩ 400 _ _ _ _ ?_
 conv=>whnf
 refine⟨fun h6=>?_,fun h6=>?_⟩<;>conv=>whnf
 ·have hlt:i<D.runs.length:=by simp at h6;omega
  have hltP:i<D.pure.runs.length:=by omega
  refine(l12Run_con D V fa fk i hlt hsm hVl hVb h5 hw2 hV).mono ?_
  rintro r h5 ⟨⟨fb,rfl,hfb⟩,rfl⟩
  rw [←pure_get D i hlt hltP] at hfb
  conv=>whnf
  refine⟨fun b7=>?_,fun b7=>?_⟩<;>conv=>whnf
  ·have hf0:fb=false:=by simpa using b7
   refine⟨⟨false,rfl,fun e=>(by cases e),fun f=>?_⟩,hle⟩
   have:=hfb.2 ((wok_full f hfull).fit i hltP)
   rw [hf0] at this
   cases this
  have hf1:fb=true:=by simpa using b7
  have hr:RowOk h5 (rowR D.rv D.runs):=hw2.runs
  obtain⟨g,hra⟩:=row_some hr (by omega)
  have hv:D.rv=.slice (some ⟨g,0,none⟩) D.runs.length D.rk:=by rw [WD.rv,hra]
  refine Ext.index slRun.u slRun.size rfl (by exact hv) rfl i rfl hlt ?_
  conv=>whnf
  refine Ext.loadRunCell (D:=D) rfl ⟨rfl,rfl⟩ rfl hr hv hlt 4 (by decide) rfl (.slice D.runs[i].2.a1 D.runs[i].1.mail.length D.runs[i].2.k1) rfl ?_
  conv=>whnf
  have hm1:=mails_le hml i
  have hm2:=hml _ (List.getElem_mem hltP)
  have hm3:=mails_take D.pure.runs i hltP
  have hg:D.pure.runs[i].mail.length=D.runs[i].1.mail.length:=by rw [pure_get D i hlt hltP]
  have hwm:IntKind.i64.wrap ((mailsP (D.pure.runs.take i):Int)+(D.runs[i].1.mail.length:Int))=((mailsP (D.pure.runs.take (i+1)):Nat):Int):=by rw [wrapN _ (by omega) (by omega)];omega
  have hwk:IntKind.i64.wrap ((i:Int)+1)=((i+1:Nat):Int):=by rw [wrapN _ (by omega) (by omega)];omega
  rw [hwm,hwk]
  exact W.back (ih (i+1) _ ⟨hlt,fun j hj hji=>(by
   rcases (by omega:j<i∨j=i) with h8 | rfl
   ·exact hfit j hj h8
   ·exact hfb.1 hf1),rfl⟩ (by omega)) [] (by exact⟨rfl,rfl,rfl,rfl,trivial⟩) rfl rfl
 have hge:i=D.runs.length:=by simp at h6;omega
 have hall:∀j (hj:j<D.pure.runs.length),FitS D.pure V j D.pure.runs[j]:=fun j hj=>hfit j hj (by omega)
 have hT:D.pure.runs.take i=D.pure.runs:=by rw [List.take_of_length_le (by omega)]
 rw [hT]
 clear hfit ih h6
 refine W.cut [(1,.p 0 0),(4,.v (.int .i64 (mailsP D.pure.runs:Nat))),(6,.v (.int .i64 (0:Nat)))] [⟨28,D.cells⟩] [] ⟨rfl,rfl,rfl,trivial⟩ rfl rfl ⟨_,rfl⟩ ?_
 refine W.loop (α:=Nat) (fun i=>[(1,.p 0 0),(4,.v (.int .i64 (mailsP D.pure.runs:Nat))),(6,.v (.int .i64 (i:Nat)))]) (fun _=>[⟨28,D.cells⟩]) (fun i h'=>i≤D.queue.length∧(∀j (hj:j<D.queue.length),j<i→D.queue[j]≤(D.runs.length:Int))∧h'=h5) (fun i=>D.queue.length-i) ?_ 0 h5 ⟨Nat.zero_le _,fun j _ hj=>absurd hj (Nat.not_lt_zero _),rfl⟩
 rintro q h6 ⟨hq,hqn,rfl⟩ ih
 refine vc_ok ⟨tbE_ok,_,Tryz.func23,Tryz.results23,Tryz.ntmps23⟩ 400 _ _ _ _ ?_
 conv=>whnf
 refine⟨fun h7=>?_,fun h7=>?_⟩<;>conv=>whnf
 ·have hlt:q<D.queue.length:=by simp at h7;omega
  obtain⟨gq,hqa⟩:=row_some hw2.queue (by omega)
  have hqv:D.qv=.slice (some ⟨gq,0,none⟩) D.queue.length D.qk:=by rw [WD.qv,hqa]
  refine W.draw [(0,true),(1,true),(2,true),(3,true),(4,true),(5,true),(6,true),(7,true),(8,true)] [0] (some h6) 99 (by kernel_rfl) rfl (by kernel_rfl) mixed rfl (fun g e=>by cases e;exact Hp.le_refl _) ?_
  refine vc_ok ⟨tbE_ok,_,Tryz.func23,Tryz.results23,Tryz.ntmps23⟩ 400 _ _ _ _ ?_
  conv=>whnf
  refine Rd.index slInt.u slInt.size rfl (by exact hqv) rfl q rfl hlt ?_
  conv=>whnf
  refine Rd.loadInt rfl hw2.queue hqv hlt rfl ?_
  conv=>whnf
  refine⟨fun b8=>?_,fun b8=>?_⟩<;>conv=>whnf
  ·refine⟨⟨false,rfl,fun e=>(by cases e),fun f=>?_⟩,hle⟩
   have:=(wok_full f hfull).qn _ (List.getElem_mem (l:=D.queue) (n:=q) hlt)
   rw [pure_len] at this
   have b9:(D.runs.length:Int)<D.queue[q]:=by simpa using b8
   omega
  have b9:D.queue[q]≤(D.runs.length:Int):=by simpa using b8
  have hwk:IntKind.i64.wrap ((q:Int)+1)=((q+1:Nat):Int):=by rw [wrapN _ (by omega) (by omega)];omega
  rw [hwk]
  exact W.back (ih (q+1) _ ⟨hlt,fun j hj hji=>(by
   rcases (by omega:j<q∨j=q) with h8 | rfl
   ·exact hqn j hj h8
   ·exact b9),rfl⟩ (by omega)) [] (by exact⟨rfl,rfl,rfl,trivial⟩) rfl rfl
 have hqall:∀x∈D.pure.queue,x≤(D.pure.runs.length:Int):=fun x hx=>by
  obtain⟨j,hj,rfl⟩:=List.getElem_of_mem hx
  rw [pure_len]
  exact hqn j hj (by((have:D.pure.queue.length=D.queue.length:=rfl);simp at h7);omega)
 clear hqn ih h7
 refine W.cut [(1,.p 0 0),(4,.v (.int .i64 (mailsP D.pure.runs:Nat))),(7,.v (.int .i64 (0:Nat)))] [⟨28,D.cells⟩] [] ⟨rfl,rfl,rfl,trivial⟩ rfl rfl ⟨_,rfl⟩ ?_
 refine W.loop (α:=Nat) (fun i=>[(1,.p 0 0),(4,.v (.int .i64 (mailsP D.pure.runs:Nat))),(7,.v (.int .i64 (i:Nat)))]) (fun _=>[⟨28,D.cells⟩]) (fun i h'=>i≤D.runs.length∧(∀a b (ha:a<D.pure.runs.length) (hb:b<a),a<i→amongP D.pure.runs[a].links ((b:Int)+1)=amongP (D.pure.runs[b]'(Nat.lt_trans hb ha)).links ((a:Int)+1))∧h'=h6) (fun i=>D.runs.length-i) ?_ 0 h6 ⟨Nat.zero_le _,fun j _ _ _ hj=>absurd hj (Nat.not_lt_zero _),rfl⟩
 rintro a h7 ⟨ha,hab,rfl⟩ ih
 refine vc_ok ⟨tbE_ok,_,Tryz.func23,Tryz.results23,Tryz.ntmps23⟩ 400 _ _ _ _ ?_
 conv=>whnf
 refine⟨fun h8=>?_,fun h8=>?_⟩<;>conv=>whnf
 ·have hlt:a<D.runs.length:=by simp at h8;omega
  have hltP:a<D.pure.runs.length:=by omega
  have hwa:IntKind.i64.wrap ((a:Int)+1)=((a+1:Nat):Int):=by rw [wrapN _ (by omega) (by omega)];omega
  refine W.cut [(1,.p 0 0),(4,.v (.int .i64 (mailsP D.pure.runs:Nat))),(7,.v (.int .i64 (a:Nat))),(8,.v (.int .i64 (0:Nat)))] [⟨28,D.cells⟩] [] ⟨rfl,rfl,rfl,rfl,trivial⟩ rfl rfl ⟨_,rfl⟩ ?_
  refine W.loop (α:=Nat) (fun i=>[(1,.p 0 0),(4,.v (.int .i64 (mailsP D.pure.runs:Nat))),(7,.v (.int .i64 (a:Nat))),(8,.v (.int .i64 (i:Nat)))]) (fun _=>[⟨28,D.cells⟩]) (fun i h'=>i≤a∧(∀b (hb:b<a),b<i→amongP D.pure.runs[a].links ((b:Int)+1)=amongP (D.pure.runs[b]'(Nat.lt_trans hb hltP)).links ((a:Int)+1))∧h'=h7) (fun i=>a-i) ?_ 0 h7 ⟨Nat.zero_le _,fun j _ hj=>absurd hj (Nat.not_lt_zero _),rfl⟩
  rintro b h9 ⟨hb,hbb,rfl⟩ ih2
  refine vc_ok ⟨tbE_ok,_,Tryz.func23,Tryz.results23,Tryz.ntmps23⟩ 400 _ _ _ _ ?_
  conv=>whnf
  refine⟨fun h10=>?_,fun h10=>?_⟩<;>conv=>whnf
  ·have hblt:b<a:=by simp at h10;omega
   have hwb:IntKind.i64.wrap ((b:Int)+1)=((b+1:Nat):Int):=by rw [wrapN _ (by omega) (by omega)];omega
   refine(l12Linked_con D a b hlt (by omega) hsm h9 hw2).mono ?_
   rintro r h9 ⟨rfl,rfl⟩
   conv=>whnf
   have ea:=pure_get D a hlt hltP
   have eb:=pure_get D b (by omega) (Nat.lt_trans hblt hltP)
   rw [←ea,←eb]
   refine⟨fun b8=>?_,fun b8=>?_⟩<;>conv=>whnf
   ·refine⟨⟨false,rfl,fun e=>(by cases e),fun f=>?_⟩,hle⟩
    have:=(wok_full f hfull).both a b hltP hblt
    rw [this] at b8
    simp at b8
   have b9:amongP D.pure.runs[a].links ((b:Int)+1)=amongP (D.pure.runs[b]'(Nat.lt_trans hblt hltP)).links ((a:Int)+1):=by simpa using b8
   rw [hwb]
   exact W.back (ih2 (b+1) _ ⟨hblt,fun j hj hji=>(by
    rcases (by omega:j<b∨j=b) with h8 | rfl
    ·exact hbb j hj h8
    ·exact b9),rfl⟩ (by omega)) [] (by exact⟨rfl,rfl,rfl,rfl,trivial⟩) rfl rfl
  have hbe:b=a:=by simp at h10;omega
  subst hbe
  rw [hwa]
  exact W.back (ih (b+1) _ ⟨hlt,fun x y hx hy hxi=>(by
   rcases (by omega:x<b∨x=b) with h8 | rfl
   ·exact hab x y hx hy h8
   ·exact hbb y hy hy),rfl⟩ (by omega)) [] (by exact⟨rfl,rfl,rfl,trivial⟩) rfl rfl
 have hae:a=D.runs.length:=by simp at h8;omega
 have hmm:=mails_le hml D.pure.runs.length
 rw [List.take_length] at hmm
 have c3:0≤D.taken∧D.taken≤9999:=hcnt.taken
 have c4:0≤D.lost∧D.lost≤9999:=hcnt.lost
 have e1:IntKind.i64.wrap (IntKind.i64.wrap (D.taken+D.lost)+(mailsP D.pure.runs:Int))=D.taken+D.lost+(mailsP D.pure.runs:Int):=by
  rw [wrapN (D.taken+D.lost) (by omega) (by omega),wrapN _ (by omega) (by omega)]
 rw [e1]
 refine⟨⟨_,rfl,fun e=>?_,fun f=>?_⟩,hle⟩
 ·have hsum:D.sent=D.taken+D.lost+(mailsP D.pure.runs:Int):=by simpa using e
  refine⟨hsafe,V,hfull,⟨by omega,by omega,hcnt,hids,hall,hqall,fun x y hx hy=>hab x y hx hy (by omega),hsum⟩⟩
 ·have hsum:D.sent=D.taken+D.lost+(mailsP D.pure.runs:Int):=(wok_full f hfull).sum
  simpa using hsum
end Go.Proofs.YtbejochaghmmbaaGreatDoor
