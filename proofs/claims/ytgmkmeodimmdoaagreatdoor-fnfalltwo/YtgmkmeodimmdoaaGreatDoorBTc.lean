import Derived.Test.YtgmkmeodimmdoaaGreatDoorBTb
import Derived.Test.YtgmkmeodimmdoaaGreatDoorBSp
namespace Go.Proofs.YtgmkmeodimmdoaaGreatDoor
open Go.RowKit
set_option maxRecDepth 100000
theorem comes1_con (gf g:Nat) (S:SD) (w:PW) (B:Nat) (hS:S.Of w) (hw:w.Wk B) (hI:w.Ids) (v:Int×Int) (s:FSt) (hq:s.q.length+B<900) (x:ClD) (h:Hp) (l:List Atom) (ho:Own h (wAtoms S.D++(.row (scRow g S)::fAll gf g v s (clAt gf x++l)))) :
  Con Tryz.prog 114 #[.pointer (some ⟨x.1,0,none⟩),.pointer (some ⟨x.2.1,0,none⟩)] h fun r h'=>r=.tuple #[]∧∃(S':SD) (s':FSt),Own h' (wAtoms S'.D++(.row (scRow g S')::fAll gf g v s' (clAt gf x++l))) ∧
   ((S'.Of w∧s'.ids=s.ids∧(¬(1≤x.2.2∧x.2.2≤(w.runs.length:Int))∨∃(i:Nat) (hi:i<w.runs.length),x.2.2=(i:Int)+1∧w.runs[i].st=3))∨∃(i:Nat) (hi:i<w.runs.length),x.2.2=(i:Int)+1∧w.runs[i].st≠3∧S'.Of (oneP w i x.2.2 w.runs[i] v).1∧s'.ids=s.ids++(oneP w i x.2.2 w.runs[i] v).2):=by
 refine Con.of_W (tb:=tbF) (args:=[.pointer (some ⟨x.1,0,none⟩),.pointer (some ⟨x.2.1,0,none⟩)]) Tryz.func114 rfl Tryz.results114 Tryz.ntmps114 (by simp) (Tryz.call114 _) (tm:=[(0,.v (.pointer (some ⟨x.1,0,none⟩))),(1,.v (.pointer (some ⟨x.2.1,0,none⟩)))]) rfl ?_;refine vc_ok ⟨tbF_ok,_,Tryz.func114,Tryz.results114,Tryz.ntmps114⟩ 400 _ _ _ _ ?_;conv=>whnf
 refine Ext.load tbF_ok rfl rfl (ho.rowOk (r:=one 92 1 x.1 [.pointer (some ⟨gf,0,none⟩)]) (by simp)) rfl rfl (by show 0+1≤1*1;omega) (.pointer (some ⟨gf,0,none⟩)) (.inr ⟨rfl,rfl,rfl⟩) ?_;conv=>whnf
 refine Ext.load tbF_ok rfl rfl (ho.rowOk (r:=one 3 1 x.2.1 [.int .i64 x.2.2]) (by simp)) rfl rfl (by show 0+1≤1*1;omega) (.int .i64 x.2.2) (.inr ⟨rfl,rfl,rfl⟩) ?_;conv=>whnf
 refine(end_con gf g S w B hS hw hI v s hq x.2.2 h _ ho).mono ?_;rintro r h1 ⟨rfl,h2⟩;conv=>whnf
 exact⟨rfl,h2⟩
theorem clAt_drop {h:Hp} {gf g:Nat} {v:Int×Int} {s:FSt} {x:ClD} {A l:List Atom} (o:Own h (A++fAll gf g v s (clAt gf x++l))):Own h (A++fAll gf g v s l):=fAll_out (a:=.row (one 92 1 x.1 [.pointer (some ⟨gf,0,none⟩)])) (b:=.row (one 3 1 x.2.1 [.int .i64 x.2.2])) o
theorem fAll_first {h:Hp} {gf g:Nat} {v:Int×Int} {s s':FSt} {x:ClD} {A l:List Atom} (e:s.q=x::s'.q) (o:Own h (fCore gf g v s'++(s.q.flatMap (clAt gf)++(A++l)))):Own h (A++fAll gf g v s' (clAt gf x++l)):=o.perm (perm_of fun y=>by
 simp only [fAll,e,List.flatMap_cons,List.count_append];omega)
def FallI (v:Int×Int) (w:PW) (id:Int) (u:PW) (ids:List Int):Prop:=((1≤id∧id≤(w.runs.length:Int))∧(∀y∈ids,1≤y∧y≤(u.runs.length:Int))∧∀w',EndR v u ids w'→EndR v w [id] w')∨(¬(1≤id∧id≤(w.runs.length:Int))∧u=w∧∀y∈ids,y=id)
abbrev optIds (o:Option ClD):List Int:=o.toList.map (·.2.2)
abbrev optVal (o:Option ClD):Value:=match o with
 |none=>.nilFunc
 |some x=>clos x
theorem FallI.skip {v:Int×Int} {w u:PW} {id k:Int} {ids:List Int} (hu:u.runs.length=w.runs.length) (h:FallI v w id u (k::ids)) (h2:¬(1≤k∧k≤(u.runs.length:Int))∨∃(i:Nat) (hi:i<u.runs.length),k=(i:Int)+1∧u.runs[i].st=3):FallI v w id u ids:=by
 rcases h with⟨h1,hr,hE⟩|⟨h1,rfl,hr⟩
 ·refine .inl ⟨h1,fun y hy=>hr y (List.mem_cons_of_mem _ hy),fun w' hw'=>hE w' ?_⟩;rcases h2 with h2|⟨i,hi,hk,hs⟩
  ·exact absurd (hr k List.mem_cons_self) h2
  ·have ht:(k-1).toNat=i:=by omega
   exact .skip (d:=u.runs[i]) (by rw [ht,List.getElem?_eq_getElem hi]) hs hw'
 ·exact .inr ⟨h1,rfl,fun y hy=>hr y (List.mem_cons_of_mem _ hy)⟩
theorem FallI.one {v:Int×Int} {w u:PW} {B:Nat} (hw:u.Wk B) {id k:Int} {ids:List Int} (hu:u.runs.length=w.runs.length) (h:FallI v w id u (k::ids)) (i:Nat) (hi:i<u.runs.length) (hk:k=(i:Int)+1) (hs:u.runs[i].st≠3):FallI v w id (oneP u i k u.runs[i] v).1 (ids++(oneP u i k u.runs[i] v).2):=by
 rcases h with⟨h1,hr,hE⟩|⟨h1,rfl,hr⟩
 ·have hl:(oneP u i k u.runs[i] v).1.runs.length=u.runs.length:=by rw [hk];exact(oneP_wk hw i hi v).2.1
  refine .inl ⟨h1,fun y hy=>?_,fun w' hw'=>hE w' ?_⟩
  ·rw [hl];rcases List.mem_append.1 hy with hy|hy
   ·exact hr y (List.mem_cons_of_mem _ hy)
   ·exact hw.links _ (List.getElem_mem _) y (oneP_sub u i k u.runs[i] v y hy)
  ·have ht:(k-1).toNat=i:=by omega
   refine .one (d:=u.runs[i]) (by rw [ht,List.getElem?_eq_getElem hi]) hs ?_;rw [ht];exact hw'
 ·have:=hr k List.mem_cons_self;omega
theorem letFall_con (g:Nat) (S:SD) (w:PW) (B:Nat) (hB:B≤100) (hS:S.Of w) (hw:w.Wk B) (hI:w.Ids) (v:Int×Int) (id:Int) (h:Hp) (l:List Atom) (ho:Own h (wAtoms S.D++(.row (scRow g S)::l))) :
  Con Tryz.prog 48 #[.pointer (some ⟨g,0,none⟩),.int .i64 id,.agg #[.int .i64 v.1,.int .i64 v.2]] h fun r h'=>r=.tuple #[]∧∃(S':SD) (w':PW),S'.Of w'∧((1≤id∧id≤(w.runs.length:Int)∧EndR v w [id] w')∨(¬(1≤id∧id≤(w.runs.length:Int))∧w'=w))∧Own h' (wAtoms S'.D++(.row (scRow g S')::l)):=by
 have hn6:=hw.runs;refine Con.of_W (tb:=tbF) (args:=[.pointer (some ⟨g,0,none⟩),.int .i64 id,.agg #[.int .i64 v.1,.int .i64 v.2]]) Tryz.func48 rfl Tryz.results48 Tryz.ntmps48 (by simp) (Tryz.call48 _) (tm:=[(0,.v (.pointer (some ⟨g,0,none⟩))),(1,.v (.int .i64 id)),(2,.a [.int .i64 v.1,.int .i64 v.2])]) rfl ?_;refine vc_ok ⟨tbF_ok,_,Tryz.func48,Tryz.results48,Tryz.ntmps48⟩ 13 _ _ _ _ ?_;conv=>whnf
 refine W.escape [⟨32,[.int .i64 v.1,.int .i64 v.2]⟩] ⟨96,[.pointer (some ⟨g,0,none⟩),.int .i64 v.1,.int .i64 v.2,.slice none 0 0,.slice none 0 0]⟩ rfl fun gf hgf=>?_
 have ho1:=Own.escape ho hgf 96 [.pointer (some ⟨g,0,none⟩),.int .i64 v.1,.int .i64 v.2,.slice none 0 0,.slice none 0 0];generalize h.put gf _=h1 at ho1 ⊢;refine W.cut [(6,.v (.pointer (some ⟨gf,0,none⟩))),(1,.v (.int .i64 id))] [] [_] ⟨rfl,rfl,trivial⟩ rfl rfl ⟨_,rfl⟩ ?_;have ho2:Own h1 (fCore gf g v ⟨[],[],none,0,none,0⟩++(wAtoms S.D++(.row (scRow g S)::l))):=(ho1.nilC.nilC).perm (perm_of fun x=>by
  simp only [fCore,faC,faRow,FSt.cv,FSt.tv,List.length_nil,List.count_append,List.count_cons,List.count_nil,List.length_cons,Nat.zero_add,Nat.reduceAdd];omega)
 clear ho1 hgf;refine vc_ok ⟨tbF_ok,_,Tryz.func48,Tryz.results48,Tryz.ntmps48⟩ 400 _ _ _ _ ?_;conv=>whnf
 refine(comes_con gf g v ⟨[],[],none,0,none,0⟩ (by show 0<1000;decide) id h1 _ ho2).mono ?_;rintro r h2 ⟨rfl,s1,bf,bi,hq1,ho3⟩;conv=>whnf
 have hq1':s1.q=[(bf,bi,id)]:=hq1;have hs1:s1.came.length+s1.turned.length<1000:=by rw [s1.came_le,hq1'];show 1<1000;decide
 refine(first_con gf g v s1 hs1 h2 _ ho3).mono ?_;rintro r h3 (⟨e,_,_⟩|⟨x,s2,e,rfl,ho4⟩)
 ·rw [e] at hq1';cases hq1'
 conv=>whnf
 have hx:x=(bf,bi,id)∧s2.q=[]:=by rw [hq1'] at e;injection e with e1 e2;exact⟨e1.symm,e2.symm⟩
 refine W.cut [(7,.v (optVal (some x))),(6,.v (.pointer (some ⟨gf,0,none⟩)))] [] [] ⟨rfl,rfl,trivial⟩ rfl rfl ⟨_,rfl⟩ ?_;have hne:w.ne≤6:=Nat.le_trans (List.countP_le_length) hw.runs;refine W.loop (α:=SD×PW×FSt×Option ClD) (fun x=>[(7,.v (optVal x.2.2.2)),(6,.v (.pointer (some ⟨gf,0,none⟩)))]) (fun _=>[])
  (fun x h'=>x.1.Of x.2.1∧x.2.1.Wk B∧x.2.1.Ids∧x.2.1.runs.length=w.runs.length∧FallI v w id x.2.1 (optIds x.2.2.2++x.2.2.1.ids)∧(x.2.2.2=none→x.2.2.1.q=[])∧x.2.2.2.toList.length+x.2.2.1.q.length+x.2.1.ne*B≤1+6*B∧Own h' (wAtoms x.1.D++(.row (scRow g x.1)::fAll gf g v x.2.2.1 (x.2.2.2.toList.flatMap (clAt gf)++l))))
  (fun x=>x.2.1.ne*(B+1)+(x.2.2.2.toList.length+x.2.2.1.q.length)) ?_ (S,w,s2,some x) h3 ⟨hS,hw,hI,rfl,?_,(fun e=>by cases e),?_,?_⟩
 rotate_left
 ·show FallI v w id w ([x.2.2]++s2.ids);rw [hx.1];simp only [FSt.ids,hx.2];by_cases hr:1≤id∧id≤(w.runs.length:Int)
  ·exact .inl ⟨hr,fun y hy=>by(have:y=id:=by simpa using hy);rw [this];exact hr,fun w' h=>by simpa using h⟩
  ·exact .inr ⟨hr,rfl,fun y hy=>by simpa using hy⟩
 ·show 1+s2.q.length+w.ne*B≤1+6*B;rw [hx.2];have:=Nat.mul_le_mul_right B hne;simp;omega
 ·refine ho4.perm (perm_of fun z=>?_);simp only [fAll,hx.1,hx.2,List.flatMap_nil,Option.toList_some,List.flatMap_cons,List.append_nil,List.nil_append,List.count_append,List.count_cons];omega
 rintro⟨T,u,t,o⟩ h4 ⟨hT,hu,huI,hul,hF,hon,hb,ho5⟩ ih;dsimp only at hT hu huI hul hF hon hb ho5 ⊢;refine vc_ok ⟨tbF_ok,_,Tryz.func48,Tryz.results48,Tryz.ntmps48⟩ 400 _ _ _ _ ?_;conv=>whnf
 cases o with
 |none =>
  refine Ext.neqF rfl (.inr rfl) rfl rfl ?_;conv=>whnf
  refine⟨fun e=>absurd e (by decide),fun _=>?_⟩;conv=>whnf
  have hq0:=hon rfl;refine⟨rfl,T,u,hT,?_,?_⟩
  ·have hF':FallI v w id u []:=by simpa [FSt.ids,optIds,hq0] using hF
   rcases hF' with⟨h1,_,hE⟩|⟨h1,e,_⟩
   ·exact .inl ⟨h1.1,h1.2,hE u (EndR.nil u)⟩
   ·exact .inr ⟨h1,e⟩
  ·have:Own h4 (fCore gf g v t++(t.q.flatMap (clAt gf)++(wAtoms T.D++(.row (scRow g T)::l)))):=ho5.perm (perm_of fun z=>by
    simp only [fAll,Option.toList_none,List.flatMap_nil,List.nil_append,List.count_append,List.count_cons];omega)
   exact this.dropL.dropL
 |some x =>
  refine Ext.neqF rfl (.inl ⟨x,rfl⟩) rfl rfl ?_;conv=>whnf
  refine⟨fun _=>?_,fun e=>by cases e⟩;conv=>whnf
  have hb1:1+t.q.length+u.ne*B≤1+6*B:=hb;have hF1:FallI v w id u (x.2.2::t.ids):=hF;have ho6:Own h4 (wAtoms T.D++(.row (scRow g T)::fAll gf g v t (clAt gf x++l))):=by simpa using ho5
  refine((comes1_con gf g T u B hT hu huI v t (by omega) x h4 l ho6).mono (R':=fun r h'=>r=.tuple #[]∧∃(T':SD) (u':PW) (t':FSt),T'.Of u'∧u'.Wk B∧u'.Ids∧u'.runs.length=w.runs.length∧FallI v w id u' t'.ids∧t'.q.length+u'.ne*B≤1+6*B∧u'.ne*(B+1)+t'.q.length<u.ne*(B+1)+(1+t.q.length)∧Own h' (wAtoms T'.D++(.row (scRow g T')::fAll gf g v t' l))) ?_).mono ?_
  ·rintro r h5 ⟨rfl,T',t',ho7,h2⟩;have ho8:Own h5 (wAtoms T'.D++(.row (scRow g T')::fAll gf g v t' l)):=by
    have:Own h5 ((wAtoms T'.D++[.row (scRow g T')])++fAll gf g v t' l):=clAt_drop (x:=x) (by rw [List.append_assoc];exact ho7);rw [List.append_assoc] at this;exact this
   have hql:∀(a b:FSt),a.ids=b.ids→a.q.length=b.q.length:=fun a b e=>by
    have:=congrArg List.length e;simpa [FSt.ids] using this
   rcases h2 with⟨hT',hids,hno⟩|⟨i,hi,hk,hs,hT',hids⟩
   ·refine⟨rfl,T',u,t',hT',hu,huI,hul,by rw [hids];exact hF1.skip hul hno,?_,?_,ho8⟩
    ·rw [hql t' t hids];omega
    ·rw [hql t' t hids];omega
   ·have hwk:=oneP_wk hu i hi v;rw [←hk] at hwk;have hnel:=oneP_ne u i hi x.2.2 v hs;have hl':t'.q.length=t.q.length+(oneP u i x.2.2 u.runs[i] v).2.length:=by
     have:=congrArg List.length hids;simpa [FSt.ids] using this
    refine⟨rfl,T',_,t',hT',hwk.1,oneP_ids huI i hi x.2.2 v,hwk.2.1.trans hul,by rw [hids];exact hF1.one hu hul i hi hk hs,?_,?_,ho8⟩
    ·have h7:=Nat.mul_le_mul_right B hnel;rw [Nat.add_mul] at h7;omega
    ·have h7:=Nat.mul_le_mul_right (B+1) hnel;rw [Nat.add_mul] at h7;omega
  ·rintro r h5 ⟨rfl,T',u',t',hT',hu',huI',hul',hF',hb',hlt',ho7⟩;conv=>whnf
   have hs':t'.came.length+t'.turned.length<1000:=by rw [t'.came_le];omega
   refine(first_con gf g v t' hs' h5 (t'.q.flatMap (clAt gf)++(wAtoms T'.D++(.row (scRow g T')::l))) (ho7.perm (perm_of fun z=>by
    simp only [fAll,List.count_append,List.count_cons];omega))).mono ?_
   rintro r h6 (⟨e,rfl,t2,e2,ho8⟩|⟨x2,t2,e,rfl,ho8⟩)<;>conv=>whnf
   ·refine W.back (ih (T',u',t2,none) h6 ⟨hT',hu',huI',hul',?_,fun _=>e2,?_,?_⟩ ?_) [] (by exact⟨rfl,rfl,trivial⟩) rfl rfl
    ·simpa [FSt.ids,optIds,e,e2] using hF'
    ·dsimp only;rw [e] at hb';simpa [e2] using hb'
    ·rw [e] at ho8;refine ho8.perm (perm_of fun z=>?_);simp only [fAll,e2,Option.toList_none,List.flatMap_nil,List.nil_append,List.count_append,List.count_cons];omega
    ·dsimp only;rw [e] at hlt';simp [e2] at hlt' ⊢;omega
   ·refine W.back (ih (T',u',t2,some x2) h6 ⟨hT',hu',huI',hul',?_,(fun e=>by cases e),?_,?_⟩ ?_) [] (by exact⟨rfl,rfl,trivial⟩) rfl rfl
    ·have:optIds (some x2)++t2.ids=t'.ids:=by simp [FSt.ids,optIds,e]
     dsimp only;rw [this];exact hF'
    ·dsimp only;rw [e] at hb';simp at hb' ⊢;omega
    ·have:Own h6 ((wAtoms T'.D++[.row (scRow g T')])++fAll gf g v t2 (clAt gf x2++l)):=fAll_first (s:=t') e (by rw [List.append_assoc];exact ho8);rw [List.append_assoc] at this;simpa using this
    ·dsimp only;rw [e] at hlt';simp at hlt' ⊢;omega
theorem OkS.wk {w:PW} {V:List Int} (ok:OkS w V):w.Wk 6:=by
 obtain⟨q1,q2⟩:=(idsB_iff 0 w.queue).1 ok.ids;have hF:∀d∈w.runs,∃i,∃hi:i<w.runs.length,d=w.runs[i]:=fun d hd=>by
  obtain⟨i,hi,e⟩:=List.getElem_of_mem hd;exact⟨i,hi,e.symm⟩
 refine⟨ok.n6,q2,fun x hx=>?_,fun d hd=>?_,fun d hd=>?_,fun d hd=>?_,fun d hd=>?_,fun d hd=>?_,fun d hd=>?_⟩
 ·obtain⟨i,hi⟩:∃i:Nat,x=(i:Int)+1:=⟨(x-1).toNat,by have:=(q1 x hx).1;omega⟩;have hl:i<w.runs.length:=by have:=ok.qn x hx;omega
  refine⟨i,hi,w.runs[i],List.getElem?_eq_getElem hl,?_⟩;have hf:=ok.fit i hl;have:=hf.q;rw [hf.id,←hi,among_mem.2 hx] at this;simpa using this.symm
 ·obtain⟨i,hi,rfl⟩:=hF d hd;exact ok.at i hi
 ·obtain⟨i,hi,rfl⟩:=hF d hd;exact(ok.run i hi).sl
 ·obtain⟨i,hi,rfl⟩:=hF d hd;exact(ok.run i hi).mail
 ·obtain⟨i,hi,rfl⟩:=hF d hd;exact nodup_len 6 _ (ok.run i hi).l2 fun x hx=>((ok.run i hi).l1 x hx).1
 ·obtain⟨i,hi,rfl⟩:=hF d hd;exact nodup_len 6 _ (ok.run i hi).w2 fun x hx=>((ok.run i hi).w1 x hx).1
 ·obtain⟨i,hi,rfl⟩:=hF d hd;intro x hx;have h1:=((ok.run i hi).l1 x hx).1;refine⟨h1.1,?_⟩;by_cases h3:w.runs[i].st=3
  ·rw [((ok.run i hi).fin h3).2.1] at hx;cases hx
  ·exact(ok.fit i hi).ties h3 x (List.mem_append_left _ hx)
theorem OkS.nums {w:PW} {V:List Int} (ok:OkS w V):w.Ids:=fun i hi=>(ok.fit i hi).id
theorem EndN.one {v:Int×Int}:∀(n m:Nat) (w:PW) (L:List Int) (a b:PW),EndN v n w L a→EndN v m w L b→a=b
 |0,0,_,_,_,_,h,k=>h.2.trans k.2.symm
 |0,m+1,w,L,a,b,h,k=>by
  obtain⟨rfl,_⟩:=h;exact k.elim
 |n+1,0,w,L,a,b,h,k=>by
  obtain⟨rfl,_⟩:=k;exact h.elim
 |n+1,m+1,w,[],a,b,h,_=>h.elim
 |n+1,m+1,w,k::L,a,b,h,h'=>by
  obtain⟨d,h1,h2⟩:=h;obtain⟨d',h1',h2'⟩:=h';rw [h1] at h1'
  cases h1'
  rcases h2 with⟨s,h2⟩|⟨s,h2⟩<;>rcases h2' with⟨s',h2'⟩|⟨s',h2'⟩
  ·exact EndN.one n m _ _ a b h2 h2'
  ·exact absurd s s'
  ·exact absurd s' s
  ·exact EndN.one n m _ _ a b h2 h2'
theorem EndR.det {v:Int×Int} {w a b:PW} {L:List Int} (h:EndR v w L a) (k:EndR v w L b):a=b:=by
 obtain⟨n,hn⟩:=h;obtain⟨m,hm⟩:=k;exact EndN.one n m w L a b hn hm
def FallOk (w:PW) (v:Int×Int):Prop:=WOk w∧okV v=true∧w.sent<9900
def FallE (w:PW) (id:Int) (v:Int×Int) (e:PW):Prop:=((1≤id∧id≤(w.runs.length:Int))∧EndR v w [id] e)∨(¬(1≤id∧id≤(w.runs.length:Int))∧e=w)
def FallR (w:PW) (id:Int) (v:Int×Int) (e:PW):Prop:=(FallOk w v∧FallE w id v e)∨(¬FallOk w v∧e=WD.zero.pure)
theorem FallE.one {w e f:PW} {id:Int} {v:Int×Int} (h:FallE w id v e) (k:FallE w id v f):e=f:=by
 rcases h with⟨g,h⟩|⟨g,rfl⟩<;>rcases k with⟨g',k⟩|⟨g',rfl⟩
 ·exact h.det k
 ·exact absurd g g'
 ·exact absurd g' g
 ·rfl
theorem FallR.one {w e f:PW} {id:Int} {v:Int×Int} (h:FallR w id v e) (k:FallR w id v f):e=f:=by
 rcases h with⟨g,h⟩|⟨g,rfl⟩<;>rcases k with⟨g',k⟩|⟨g',rfl⟩
 ·exact h.one k
 ·exact absurd g g'
 ·exact absurd g' g
 ·rfl
theorem iFallEnd_con (D:WD) (hsm:D.pure.Sm) (hy:∀d∈D.pure.runs,okV (d.wk,d.wn)=true) (id:Int) (v:Int×Int) (h:Hp) (l:List Atom) (ho:Own h (wAtoms D++l)) :
  Con Tryz.prog 19 #[D.val,.int .i64 id,.agg #[.int .i64 v.1,.int .i64 v.2]] h fun r h'=>∃E:WD,r=E.val∧FallR D.pure id v E.pure∧Own h' (wAtoms E++(wAtoms D++l)):=by
 have hw:WI h D:=(ho.win fun x hx=>List.mem_append_left _ hx).wi;refine Con.of_W (tb:=tbF) (args:=[D.val,.int .i64 id,.agg #[.int .i64 v.1,.int .i64 v.2]]) Tryz.func19 rfl Tryz.results19 Tryz.ntmps19 (by simp) (Tryz.call19 _) (tm:=[(0,.a D.cells),(1,.v (.int .i64 id)),(2,.a [.int .i64 v.1,.int .i64 v.2])]) rfl ?_;refine vc_ok ⟨tbF_ok,_,Tryz.func19,Tryz.results19,Tryz.ntmps19⟩ 400 _ _ _ _ ?_;conv=>whnf
 refine(iWorldOk_con D hsm hy h hw).mono ?_;rintro r h1 ⟨⟨b,rfl,hb⟩,rfl⟩;conv=>whnf
 have no:∀{p:Prop},(FallOk D.pure v→p)→(¬p)→∃E:WD,WD.zero.val=E.val∧FallR D.pure id v E.pure∧Own h1 (wAtoms E++(wAtoms D++l)):=fun k np=>⟨WD.zero,rfl,.inr ⟨fun g=>np (k g),rfl⟩,zero_own ho⟩
 refine⟨fun b0=>?_,fun b0=>?_⟩<;>conv=>whnf
 ·refine(iValOk_con v h1).mono ?_;rintro r h1 ⟨rfl,rfl⟩;conv=>whnf
  refine⟨fun b1=>?_,fun b1=>?_⟩<;>conv=>whnf
  ·refine⟨fun b2=>?_,fun b2=>?_⟩<;>conv=>whnf
   ·exact no (fun g=>(show D.sent<9900 from g.2.2)) (by simpa using b2)
   ·have hok:WOk D.pure:=hb.1 (by simpa using b0);have hg:FallOk D.pure v:=⟨hok,by simpa using b1,show D.sent<9900 by simpa using b2⟩;obtain⟨_,V,_,ok⟩:=hok;refine(sceneOf_con D hsm ok.q6 h1 l ho).mono ?_;rintro r h2 ⟨g,S,rfl,hS,ho2⟩;conv=>whnf
    refine(letFall_con g S.nq D.pure 6 (by decide) hS.nq ok.wk ok.nums v id h2 _ (sc_open ho2)).mono ?_;rintro r h3 ⟨rfl,S',w',hS',hw',ho3⟩;conv=>whnf
    refine(told_con g S' _ hS' h3 _ (sc_shut ho3)).mono ?_;rintro r h4 ⟨D',rfl,hD',ho4⟩;conv=>whnf
    refine⟨D',rfl,.inl ⟨hg,?_⟩,ho4⟩;rw [hD'];rcases hw' with⟨h1,h2,hE⟩|⟨h1,e⟩
    ·exact .inl ⟨⟨h1,h2⟩,hE⟩
    ·exact .inr ⟨h1,e⟩
  ·exact no (fun g=>g.2.1) (by simpa using b1)
 ·exact no (fun g=>hb.2 g.1) (by simpa using b0)
theorem sFallEnd_con (D:WD) (hsm:D.pure.Sm) (id:Int) (v:Int×Int) (h:Hp) (l:List Atom) (ho:Own h (wAtoms D++l)) :
  Con Tryz.prog 21 #[D.val,.int .i64 id,.agg #[.int .i64 v.1,.int .i64 v.2]] h fun r h'=>∃E:WD,r=E.val∧FallR D.pure id v E.pure∧Own h' (wAtoms E++(wAtoms D++l)):=by
 have hw:WIn h D:=ho.win fun x hx=>List.mem_append_left _ hx
 have hlp:=pure_len D;refine Con.of_W (tb:=tbE) (args:=[D.val,.int .i64 id,.agg #[.int .i64 v.1,.int .i64 v.2]]) Tryz.func21 rfl Tryz.results21 Tryz.ntmps21 (by simp) (Tryz.call21 _) (tm:=[(0,.a D.cells),(1,.v (.int .i64 id)),(2,.a [.int .i64 v.1,.int .i64 v.2])]) rfl ?_;refine vc_ok ⟨tbE_ok,_,Tryz.func21,Tryz.results21,Tryz.ntmps21⟩ 400 _ _ _ _ ?_;conv=>whnf
 refine(sWorldOk_con D hsm h hw).mono ?_;rintro r h1 ⟨⟨b,rfl,hb⟩,rfl⟩;conv=>whnf
 have no:∀{p:Prop},(FallOk D.pure v→p)→(¬p)→∃E:WD,WD.zero.val=E.val∧FallR D.pure id v E.pure∧Own h1 (wAtoms E++(wAtoms D++l)):=fun k np=>⟨WD.zero,rfl,.inr ⟨fun g=>np (k g),rfl⟩,zero_own ho⟩
 refine⟨fun b0=>?_,fun b0=>?_⟩<;>conv=>whnf
 ·refine(valOk_con v h1).mono ?_;rintro r h1 ⟨rfl,rfl⟩;conv=>whnf
  refine⟨fun b1=>?_,fun b1=>?_⟩<;>conv=>whnf
  ·refine⟨fun b2=>?_,fun b2=>?_⟩<;>conv=>whnf
   ·exact no (fun g=>(show D.sent<9900 from g.2.2)) (by simpa using b2)
   ·have hok:WOk D.pure:=hb.1 (by simpa using b0);have hg:FallOk D.pure v:=⟨hok,by simpa using b1,show D.sent<9900 by simpa using b2⟩;obtain⟨_,V,_,ok⟩:=hok;have h6:=ok.n6;refine(l6In_con _ _ _ h1).mono ?_;rintro r h1 ⟨rfl,rfl⟩;conv=>whnf
    refine⟨fun b3=>?_,fun b3=>?_⟩<;>conv=>whnf
    ·have hin:1≤id∧id≤(D.runs.length:Int):=by simpa using b3
     obtain⟨i,hid⟩:∃i:Nat,id=(i:Int)+1:=⟨(id-1).toNat,by omega⟩;have hi:i<D.runs.length:=by omega
     have hz:IntKind.i64.wrap (id-1)=(i:Int):=by rw [hid,show (i:Int)+1-1=i by omega];exact wrapN _ (by omega) (by omega)
     obtain⟨gr,hra⟩:=w_ra ho (by omega);have hat:(id-1).toNat=i:=by omega
     have hgp:D.pure.runs[(id-1).toNat]?=some D.runs[i].1:=by rw [hat,List.getElem?_eq_getElem (by omega),pure_get D i hi]
     refine Ext.index slRun.u slRun.size rfl (by exact rv_same hra) rfl i hz hi ?_;conv=>whnf
     refine Ext.loadRunCell (D:=D) rfl ⟨rfl,rfl⟩ rfl (ho.rowOk (by simp [wAtoms])) (rv_same hra) hi 5 (by omega) rfl (.int .i64 D.runs[i].1.st) rfl ?_;conv=>whnf
     refine⟨fun b4=>?_,fun b4=>?_⟩<;>conv=>whnf
     ·refine(l12Copy_con D hsm h1 l ho).mono ?_;rintro r h2 ⟨D1,rfl,e1,ho1⟩;conv=>whnf
      refine⟨D1,rfl,.inl ⟨hg,.inl ⟨by rw [hlp];exact hin,?_⟩⟩,ho1⟩;rw [e1];exact EndR.skip hgp (by simpa using b4) (EndR.nil _)
     ·refine W.cut [(1,.v (.int .i64 id)),(3,.p 0 0),(5,.p 1 0),(6,.p 2 0)] _ [] ⟨rfl,rfl,rfl,rfl,trivial⟩ (List.append_nil _).symm rfl ⟨_,rfl⟩ ?_;refine W.draw [(0,true),(2,true),(3,true),(1,false),(4,false),(5,false)] [0,1] none 99 (by kernel_rfl) rfl (by kernel_rfl) mixed rfl (fun g e=>by cases e) ?_;refine vc_ok ⟨tbE_ok,_,Tryz.func21,Tryz.results21,Tryz.ntmps21⟩ 400 _ _ _ _ ?_;conv=>whnf
      refine(l12Copy_con D hsm h1 l ho).mono ?_;rintro r h2 ⟨D1,rfl,e1,ho1⟩;conv=>whnf
      have hl1:D1.runs.length=D.runs.length:=by rw [←pure_len,e1,hlp]
      refine(l13End_con D1 6 (by omega) (by rw [e1];exact ok.wk) i (by omega) id hid v h2 _ ho1).mono ?_;rintro r h3 ⟨D2,rfl,ho2,hE,_,_⟩;conv=>whnf
      exact⟨D2,rfl,.inl ⟨hg,.inl ⟨by rw [hlp];exact hin,by rw [←e1];exact hE⟩⟩,ho2⟩
    ·have hout:¬(1≤id∧id≤(D.runs.length:Int)):=fun hin=>by
      have:(decide (1≤id)&&decide (id≤(D.runs.length:Int)))=true:=by simpa using hin
      rw [this] at b3
      cases b3
     refine(l12Copy_con D hsm h1 l ho).mono ?_;rintro r h2 ⟨D1,rfl,e1,ho1⟩;conv=>whnf
     exact⟨D1,rfl,.inl ⟨hg,.inr ⟨by rw [hlp];exact hout,e1⟩⟩,ho1⟩
  ·exact no (fun g=>g.2.1) (by simpa using b1)
 ·exact no (fun g=>hb.2 g.1) (by simpa using b0)
abbrev zCells:List Value:=[.slice none 0 0,.slice none 0 0,.slice none 0 0,.int .i64 0,.int .i64 0,.int .i64 0,.int .i64 0]
theorem l72Linked_con (c:RdC) (hc:c.Ok) (p:Int) (hp0:0≤p) (hp1:p≤400000) (h:Hp) (l:List Atom) (ho:Own h (c.atoms p++l)) :
  Con Tryz.prog 45 #[.pointer (some ⟨c.R,0,none⟩)] h fun r h'=>∃(D:WD) (p':Int),r=D.val∧DrawnW D.pure∧p≤p'∧p'≤p+7300∧Own h' (c.atoms p'++(wAtoms D++l)):=by
 refine Con.of_W (tb:=tbF) (args:=[.pointer (some ⟨c.R,0,none⟩)]) Tryz.func45 rfl Tryz.results45 Tryz.ntmps45 (by simp) (Tryz.call45 _) (tm:=[(0,.v (.pointer (some ⟨c.R,0,none⟩)))]) rfl ?_;refine vc_ok ⟨tbF_ok,_,Tryz.func45,Tryz.results45,Tryz.ntmps45⟩ 400 _ _ _ _ ?_;conv=>whnf
 refine(l72World_con c hc p hp0 (by omega) h l ho).mono ?_;rintro r h1 ⟨D,q,rfl,hd,hq1,hq2,ho1⟩;conv=>whnf
 refine W.cut [(4,.v (.int .i64 (0:Nat))),(3,.p 1 0),(2,.p 0 0),(0,.v (.pointer (some ⟨c.R,0,none⟩)))] [⟨27,zCells⟩,⟨27,D.cells⟩] [] ⟨rfl,rfl,rfl,rfl,trivial⟩ rfl rfl ⟨_,rfl⟩ ?_;refine W.loop (α:=Nat×WD×Int) (fun x=>[(4,.v (.int .i64 (x.1:Nat))),(3,.p 1 0),(2,.p 0 0),(0,.v (.pointer (some ⟨c.R,0,none⟩)))]) (fun x=>[⟨27,zCells⟩,⟨27,x.2.1.cells⟩])
  (fun x h'=>x.1≤5∧DrawnW x.2.1.pure∧p≤x.2.2∧x.2.2≤p+1200+1201*(x.1:Int)∧Own h' (c.atoms x.2.2++(wAtoms x.2.1++l))) (fun x=>5-x.1) ?_ (0,D,q) h1 ⟨Nat.zero_le _,hd,hq1,by dsimp only;omega,ho1⟩
 rintro⟨i,E,q1⟩ h2 ⟨hi,hE,hb1,hb2,ho2⟩ ih;dsimp only at hi hE hb1 hb2 ho2 ⊢;have hf:=hE.facts;have hl:=pure_len E;refine vc_ok ⟨tbF_ok,_,Tryz.func45,Tryz.results45,Tryz.ntmps45⟩ 400 _ _ _ _ ?_;conv=>whnf
 refine⟨fun c0=>?_,fun c0=>?_⟩<;>conv=>whnf
 ·have hlt:i<5:=by simp at c0;omega
  refine(pick_con c hc q1 8 (by omega) (by omega) (by omega) (by omega) h2 _ ho2).mono ?_;rintro r h3 ⟨y,rfl,hy0,hy1,ho3⟩;conv=>whnf
  refine⟨fun c1=>?_,fun c1=>?_⟩<;>conv=>whnf
  ·refine W.cut [(6,.v (.int .i64 (0:Nat))),(5,.v (.int .i64 (0:Nat))),(4,.v (.int .i64 (i:Nat))),(3,.p 1 0),(2,.p 0 0),(0,.v (.pointer (some ⟨c.R,0,none⟩)))] [⟨27,zCells⟩,⟨27,E.cells⟩] [] ⟨rfl,rfl,rfl,rfl,rfl,rfl,trivial⟩ rfl rfl ⟨_,rfl⟩ ?_;refine W.loop (α:=Nat×Nat) (fun x=>[(6,.v (.int .i64 (x.1:Nat))),(5,.v (.int .i64 (x.2:Nat))),(4,.v (.int .i64 (i:Nat))),(3,.p 1 0),(2,.p 0 0),(0,.v (.pointer (some ⟨c.R,0,none⟩)))]) (fun _=>[⟨27,zCells⟩,⟨27,E.cells⟩])
    (fun x h'=>x.1≤E.runs.length∧x.2≤2000*x.1∧Own h' (c.atoms (q1+1)++(wAtoms E++l))) (fun x=>E.runs.length-x.1) ?_ (0,0) h3 ⟨Nat.zero_le _,Nat.zero_le _,ho3⟩
   rintro⟨k,n⟩ h4 ⟨hk,hn,ho4⟩ ih2;dsimp only at hk hn ho4 ⊢;refine vc_ok ⟨tbF_ok,_,Tryz.func45,Tryz.results45,Tryz.ntmps45⟩ 400 _ _ _ _ ?_;conv=>whnf
   refine⟨fun c2=>?_,fun c2=>?_⟩<;>conv=>whnf
   ·have hlt2:k<E.runs.length:=by simp at c2;omega
    have hwE:RowOk h4 (rowR E.rv E.runs):=ho4.rowOk (by simp [wAtoms]);obtain⟨gr,hra⟩:=row_some hwE (by omega);have hsm:=hE.sm.each E.runs[k].1 (pure_mem hlt2);refine W.draw [(0,true),(1,true),(2,true),(3,true),(4,true),(5,true),(6,true),(7,true),(8,true),(9,true),(10,true),(11,true),(12,true),(13,true),(14,true),(15,true),(16,true),(17,true)] [1] (some h4) 99 (by kernel_rfl) rfl (by kernel_rfl) mixed rfl (fun g e=>by cases e;exact Hp.le_refl _) ?_;refine vc_ok ⟨tbF_ok,_,Tryz.func45,Tryz.results45,Tryz.ntmps45⟩ 400 _ _ _ _ ?_;conv=>whnf
    refine Rd.index slRun.u slRun.size rfl (by exact rv_same hra) rfl k rfl hlt2 ?_;conv=>whnf
    refine Rd.loadRunCell (D:=E) rfl ⟨rfl,rfl⟩ rfl hwE (rv_same hra) hlt2 7 (by omega) rfl (.slice E.runs[k].2.a2 E.runs[k].1.links.length E.runs[k].2.k2) rfl ?_;conv=>whnf
    refine Rd.index slRun.u slRun.size rfl (by exact rv_same hra) rfl k rfl hlt2 ?_;conv=>whnf
    refine Rd.loadRunCell (D:=E) rfl ⟨rfl,rfl⟩ rfl hwE (rv_same hra) hlt2 8 (by omega) rfl (.slice E.runs[k].2.a3 E.runs[k].1.wat.length E.runs[k].2.k3) rfl ?_;conv=>whnf
    have s2:=hsm.s2;have s3:=hsm.s3;have e1:IntKind.i64.wrap ((n:Int)+(E.runs[k].1.links.length:Int))=((n+E.runs[k].1.links.length:Nat):Int):=by rw [wrapN _ (by omega) (by omega)];omega
    have e2:IntKind.i64.wrap (((n+E.runs[k].1.links.length:Nat):Int)+(E.runs[k].1.wat.length:Int))=((n+E.runs[k].1.links.length+E.runs[k].1.wat.length:Nat):Int):=by rw [wrapN _ (by omega) (by omega)];omega
    have e3:IntKind.i64.wrap ((k:Int)+1)=((k+1:Nat):Int):=by rw [wrapN _ (by omega) (by omega)];omega
    rw [e1,e2,e3];refine W.back (ih2 (k+1,n+E.runs[k].1.links.length+E.runs[k].1.wat.length) h4 ⟨hlt2,by dsimp only;omega,ho4⟩ (by dsimp only;omega)) [] (by exact⟨rfl,rfl,rfl,rfl,rfl,rfl,trivial⟩) rfl rfl
   ·refine⟨fun c3=>?_,fun c3=>?_⟩<;>conv=>whnf
    ·exact⟨E,q1+1,rfl,hE,by omega,by omega,ho4⟩
    ·refine(l72World_con c hc (q1+1) (by omega) (by omega) h4 _ ho4).mono ?_;rintro r h5 ⟨F,q2,rfl,hF,hb3,hb4,ho5⟩;conv=>whnf
     have e3:IntKind.i64.wrap ((i:Int)+1)=((i+1:Nat):Int):=by rw [wrapN _ (by omega) (by omega)];omega
     rw [e3];have ho6:Own h5 (c.atoms q2++(wAtoms F++l)):=by
      have:Own h5 (wAtoms E++(c.atoms q2++(wAtoms F++l))):=ho5.perm (perm_of fun x=>by simp only [List.count_append];omega);exact this.dropL
     refine W.back (ih (i+1,F,q2) h5 ⟨hlt,hF,by dsimp only;omega,by dsimp only;omega,ho6⟩ (by dsimp only;omega)) [] (by exact⟨rfl,rfl,rfl,rfl,trivial⟩) rfl rfl
  ·exact⟨E,q1+1,rfl,hE,by omega,by omega,ho3⟩
 ·exact⟨E,q1,rfl,hE,hb1,by omega,ho2⟩
theorem drawFallEnd_con (a:Option Addr) (len cap:Nat) (cb:Option (Nat×Obj)) (hc:CodeIn a len cap cb) (h:Hp) (l:List Atom) (ho:Own h (cbAtoms cb++l)) :
  Con Tryz.prog 18 #[.slice a len cap] h fun r h'=>∃(D:WD) (id:Int) (v:Int×Int),r=.tuple #[D.val,.int .i64 id,.agg #[.int .i64 v.1,.int .i64 v.2]]∧DrawnW D.pure∧1≤id∧id≤100∧v.1=2∧0≤v.2∧v.2≤100∧Own h' (cbAtoms cb++(wAtoms D++l)):=by
 refine Con.of_W (tb:=tbE) (args:=[.slice a len cap]) Tryz.func18 rfl Tryz.results18 Tryz.ntmps18 (by simp) (Tryz.call18 _) (tm:=[(0,.v (.slice a len cap))]) rfl ?_;refine vc_ok ⟨tbE_ok,_,Tryz.func18,Tryz.results18,Tryz.ntmps18⟩ 400 _ _ _ _ ?_;conv=>whnf
 refine(open_con a len cap cb hc h l ho).mono ?_;rintro r h1 ⟨c,hok,hcb,rfl,ho1⟩;conv=>whnf
 refine(l72Linked_con c hok 0 (by omega) (by omega) h1 l ho1).mono ?_;rintro r h2 ⟨D,q,rfl,hd,hq1,hq2,ho2⟩;conv=>whnf
 have hf:=hd.facts;have hl:=pure_len D;have hl1:1≤D.runs.length:=by omega
 have hl6:D.runs.length≤6:=by omega
 refine W.cut [(6,.p 2 0),(4,.p 1 0),(3,.v (.int .i64 0)),(2,.p 0 0),(5,.v (.pointer (some ⟨c.R,0,none⟩)))] _ [] ⟨rfl,rfl,rfl,rfl,rfl,trivial⟩ (List.append_nil _).symm rfl ⟨_,rfl⟩ ?_;refine W.draw [(0,true),(1,true),(2,true),(3,true),(4,true),(7,true),(12,true),(14,true),(5,false),(6,true),(8,false),(9,true),(10,true),(11,true),(13,false),(15,false),(16,true),(17,true),(18,true),(19,true),(20,false),(21,true),(22,false)] [2] none 99 (by kernel_rfl) rfl (by kernel_rfl) mixed rfl (fun g e=>by cases e) ?_;refine vc_ok ⟨tbE_ok,_,Tryz.func18,Tryz.results18,Tryz.ntmps18⟩ 400 _ _ _ _ ?_;conv=>whnf
 refine(pick_con c hok q D.runs.length (by omega) (by omega) (by omega) (by omega) h2 _ ho2).mono ?_;rintro r h3 ⟨y,rfl,hy0,hy1,ho3⟩;conv=>whnf
 refine(pick_con c hok (q+1) 24 (by omega) (by omega) (by omega) (by omega) h3 _ ho3).mono ?_;rintro r h4 ⟨z,rfl,hz0,hz1,ho4⟩;conv=>whnf
 refine Rd.quo (b:=23) rfl rfl rfl (by decide) ?_;have ht:z.tdiv 23=z / 23:=Int.tdiv_eq_ediv_of_nonneg (by omega);have hq:IntKind.i64.wrap (z / 23)=z / 23:=wrapN _ (by omega) (by omega);rw [ht,hq];conv=>whnf
 refine(pick_con c hok (q+1+1) 3 (by omega) (by omega) (by omega) (by omega) h4 _ ho4).mono ?_;rintro r h5 ⟨u,rfl,hu0,hu1,ho5⟩;conv=>whnf
 refine(pick_con c hok (q+1+1+1) 24 (by omega) (by omega) (by omega) (by omega) h5 _ ho5).mono ?_;rintro r h6 ⟨t,rfl,ht0,ht1,ho6⟩;conv=>whnf
 refine Rd.quo (b:=23) rfl rfl rfl (by decide) ?_;have ht2:t.tdiv 23=t / 23:=Int.tdiv_eq_ediv_of_nonneg (by omega);have hq2:IntKind.i64.wrap (t / 23)=t / 23:=wrapN _ (by omega) (by omega);rw [ht2,hq2];conv=>whnf
 have e1:IntKind.i64.wrap (1+y)=1+y:=wrapN _ (by omega) (by omega);have e2:IntKind.i64.wrap (z / 23*6)=z / 23*6:=wrapN _ (by omega) (by omega);have e3:IntKind.i64.wrap (1+y+z / 23*6)=1+y+z / 23*6:=wrapN _ (by omega) (by omega);have e4:IntKind.i64.wrap (t / 23*10)=t / 23*10:=wrapN _ (by omega) (by omega);have e5:IntKind.i64.wrap (u+t / 23*10)=u+t / 23*10:=wrapN _ (by omega) (by omega);refine⟨D,1+y+z / 23*6,(2,u+t / 23*10),?_,hd,by omega,by omega,rfl,by dsimp only;omega,by dsimp only;omega,c_cb hcb ho6⟩;rw [e1,e2,e3,e4,e5];rfl
def RunD.unl (id:Int) (d:RunD):RunD:={ d with links:=lessP d.links id }
def unlP (id:Int) (w:PW):PW:={ w with runs:=w.runs.map (RunD.unl id) }
def goneP (w:PW) (i:Nat) (id:Int) (d:RunD) (v:Int×Int):PW:=unlP id (fallA w i id d v)
def trapAt (w:PW) (k:Int):Bool:=match w.runs[(k-1).toNat]? with
 |some d=>d.trap
 |none=>false
def toldP (w:PW) (d:RunD) (v:Int×Int):List Int:=(if normalP v then [] else d.links.filter (fun k=>trapAt w k))++d.wat
def nextP (w:PW) (d:RunD) (v:Int×Int):List Int:=if normalP v then [] else d.links.filter (fun k=>!trapAt w k)
theorem lessP_idem (L:List Int) (n:Int):lessP (lessP L n) n=lessP L n:=by simp [lessP]
theorem unl_set {L:List RunD} {m:Nat} (hm:m<L.length) (id:Int):(L.set m (RunD.unl id L[m])).map (RunD.unl id)=L.map (RunD.unl id):=by
 refine List.ext_getElem (by simp) fun j h1 h2=>?_
 simp only [List.getElem_map];by_cases e:m=j
 ·subst e;rw [List.getElem_set_self];simp [RunD.unl,lessP_idem]
 ·rw [List.getElem_set_ne e]
theorem unl_give (w:PW) (id k:Int) (x:Int×Int):unlP id (giveP w k x)=giveP (unlP id w) k x:=by
 unfold giveP;have hl:(unlP id w).runs.length=w.runs.length:=by simp [unlP]
 rw [hl]
 split
 ·have hg:(unlP id w).runs[(k-1).toNat]?=(w.runs[(k-1).toNat]?).map (RunD.unl id):=by simp [unlP]
  rw [hg]
  cases hd:w.runs[(k-1).toNat]? with
  |none=>rfl
  |some d =>
   simp only [Option.map_some];unfold giveAt;have e1:(RunD.unl id d).st=d.st:=rfl;have e2:(RunD.unl id d).mail=d.mail:=rfl;have e3:stepAt (unlP id w).code (RunD.unl id d)=stepAt w.code d:=rfl;rw [e1,e2,e3]
   split
   ·rfl
   ·split
    ·simp [unlP,RunD.unl,List.map_set]
    ·simp [unlP,RunD.unl,List.map_set]
 ·rfl
theorem unl_link (id:Int) (v:Int×Int) (w:PW) (Q:List Int) (k:Int):unlP id (linkStep id v (w,Q) k).1=if normalP v=false∧trapAt w k=true then giveP (unlP id w) k (3,id) else unlP id w:=by
 unfold linkStep trapAt;dsimp only
 cases hd:w.runs[(k-1).toNat]? with
 |none=>simp
 |some d =>
  dsimp only;obtain⟨hi,rfl⟩:=List.getElem?_eq_some_iff.1 hd;have hs:unlP id { w with runs:=w.runs.set (k-1).toNat { w.runs[(k-1).toNat] with links:=lessP w.runs[(k-1).toNat].links id } }=unlP id w:=by
   unfold unlP;have:=unl_set hi id;unfold RunD.unl at this ⊢;dsimp only at this ⊢;rw [this]
  by_cases hn:normalP v=true
  ·rw [if_pos hn,hs,if_neg (by rw [hn];simp)]
  ·rw [if_neg hn];have hn':normalP v=false:=by simpa using hn
   by_cases ht:w.runs[(k-1).toNat].trap=true
   ·rw [if_pos ht,if_pos ⟨hn',ht⟩];dsimp only;rw [unl_give,hs]
   ·rw [if_neg ht,if_neg fun e=>ht e.2];exact hs
structure GiftD (a b:RunD):Prop where
 id:b.id=a.id
 pl:b.pl=a.pl
 slots:b.slots=a.slots
 full:b.full=a.full
 due:b.due=a.due
 links:b.links=a.links
 wat:b.wat=a.wat
 trap:b.trap=a.trap
 why:b.wk=a.wk∧b.wn=a.wn
 tu:b.tu=a.tu
 mail:∃ext,b.mail=a.mail++ext
 st:b.st=a.st∨(a.st=2∧b.st=1)
theorem GiftD.refl (a:RunD):GiftD a a:=⟨rfl,rfl,rfl,rfl,rfl,rfl,rfl,rfl,⟨rfl,rfl⟩,rfl,⟨[],by simp⟩,.inl rfl⟩
theorem GiftD.trans {a b c:RunD} (h:GiftD a b) (k:GiftD b c):GiftD a c:=by
 refine⟨k.id.trans h.id,k.pl.trans h.pl,k.slots.trans h.slots,k.full.trans h.full,k.due.trans h.due,k.links.trans h.links,k.wat.trans h.wat,k.trap.trans h.trap,⟨k.why.1.trans h.why.1,k.why.2.trans h.why.2⟩,k.tu.trans h.tu,?_,?_⟩
 ·obtain⟨x,hx⟩:=h.mail;obtain⟨y,hy⟩:=k.mail;exact⟨x++y,by rw [hy,hx,List.append_assoc]⟩
 ·rcases h.st with e|⟨e1,e2⟩<;>rcases k.st with f|⟨f1,f2⟩
  ·exact .inl (f.trans e)
  ·exact .inr ⟨by rw [←e];exact f1,f2⟩
  ·exact .inr ⟨e1,f.trans e2⟩
  ·omega
structure GiftW (T:List Int) (a b:PW):Prop where
 code:b.code=a.code
 len:b.runs.length=a.runs.length
 now:b.now=a.now
 taken:b.taken=a.taken
 run:∀j (hj:j<a.runs.length) (hb:j<b.runs.length),GiftD a.runs[j] b.runs[j]
 same:∀j (hj:j<a.runs.length) (hb:j<b.runs.length),(a.runs[j].st=3∨((j:Int)+1)∉T)→b.runs[j]=a.runs[j]
theorem GiftW.refl (a:PW):GiftW [] a a:=⟨rfl,rfl,rfl,rfl,fun _ _ _=>GiftD.refl _,fun _ _ _ _=>rfl⟩
theorem GiftW.trans {T U:List Int} {a b c:PW} (h:GiftW T a b) (k:GiftW U b c):GiftW (T++U) a c:=by
 refine⟨k.code.trans h.code,k.len.trans h.len,k.now.trans h.now,k.taken.trans h.taken,fun j hj hc=>?_,fun j hj hc hn=>?_⟩
 ·have hb:j<b.runs.length:=by rw [h.len];exact hj
  exact(h.run j hj hb).trans (k.run j hb hc)
 ·have hb:j<b.runs.length:=by rw [h.len];exact hj
  have h1:=h.same j hj hb (hn.imp id fun h=>fun e=>h (List.mem_append_left _ e));have h2:=k.same j hb hc (by
   rcases hn with e|e
   ·exact .inl (by rw [h1];exact e)
   ·exact .inr fun h=>e (List.mem_append_right _ h))
  rw [h2,h1]
theorem giveP_gift (w:PW) (k:Int) (x:Int×Int):GiftW [k] w (giveP w k x):=by
 have keep:∀(y:RunD) (i:Nat) (hi:i<w.runs.length) (q:List Int) (s t:Int),k=(i:Int)+1→w.runs[i].st≠3→GiftD w.runs[i] y→GiftW [k] w { w with runs:=w.runs.set i y,queue:=q,sent:=s,lost:=t }:=fun y i hi q s t hk hs hy=>by
  refine⟨rfl,by simp,rfl,rfl,fun j hj hb=>?_,fun j hj hb hn=>?_⟩
  ·show GiftD w.runs[j] (w.runs.set i y)[j];by_cases e:i=j
   ·subst e;rw [List.getElem_set_self];exact hy
   ·rw [List.getElem_set_ne e];exact GiftD.refl _
  ·show (w.runs.set i y)[j]=w.runs[j];have e:i≠j:=fun e=>by
    subst e;rcases hn with h|h
    ·exact hs h
    ·exact h (by rw [hk];simp)
   rw [List.getElem_set_ne e]
 have lose:GiftW [k] w (loseP w):=⟨rfl,rfl,rfl,rfl,fun _ _ _=>GiftD.refl _,fun _ _ _ _=>rfl⟩;unfold giveP
 split
 ·rename_i hin
  split
  ·rename_i d hd
   obtain⟨hi,rfl⟩:=List.getElem?_eq_some_iff.1 hd;unfold giveAt
   split
   ·exact lose
   ·rename_i hno
    have h3:w.runs[(k-1).toNat].st≠3:=fun e=>hno (by rw [e];rfl)
    split
    ·rename_i h2
     have h2':w.runs[(k-1).toNat].st=2:=by
      rw [Bool.and_eq_true] at h2;simpa using h2.1
     exact keep _ _ hi _ _ _ (by omega) h3 ⟨rfl,rfl,rfl,rfl,rfl,rfl,rfl,rfl,⟨rfl,rfl⟩,rfl,⟨[x],rfl⟩,.inr ⟨h2',rfl⟩⟩
    ·exact keep _ _ hi _ _ _ (by omega) h3 ⟨rfl,rfl,rfl,rfl,rfl,rfl,rfl,rfl,⟨rfl,rfl⟩,rfl,⟨[x],rfl⟩,.inl rfl⟩
  ·exact lose
 ·exact lose
theorem gives_gift (x:Int×Int):∀(L:List Int) (w:PW),GiftW L w (L.foldl (fun w k=>giveP w k x) w)
 |[],w=>GiftW.refl w
 |k::L,w=>(giveP_gift w k x).trans (gives_gift x L _)
end Go.Proofs.YtgmkmeodimmdoaaGreatDoor
