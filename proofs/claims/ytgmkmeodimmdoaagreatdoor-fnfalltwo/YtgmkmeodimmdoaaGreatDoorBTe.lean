import Derived.Test.YtgmkmeodimmdoaaGreatDoorBTd
namespace Go.Proofs.YtgmkmeodimmdoaaGreatDoor
open Go.RowKit
set_option maxRecDepth 100000
def Closed (w:PW) (S:Int→Prop):Prop:=∀m (hm:m<w.runs.length),S ((m:Int)+1)→∀k∈w.runs[m].links,trapAt w k=false→S k
def Reach (w:PW) (id x:Int):Prop:=∀S:Int→Prop,Closed w S→S id→S x
theorem Reach.self {w:PW} {id:Int}:Reach w id id:=fun _ _ h=>h
theorem Reach.closed {w:PW} {id:Int}:Closed w (Reach w id):=fun m hm h k hk ht S hc hs=>hc m hm (h S hc hs) k hk ht
structure Bfs (w:PW) (id:Int) (W:List Int) (i:Nat):Prop where
 nd:W.Nodup
 rng:∀x∈W,1≤x∧x≤(w.runs.length:Int)
 st:id∈W
 cl:∀j,j<i→∀(hj:j<W.length) m (hm:m<w.runs.length),W[j]=(m:Int)+1→∀k∈w.runs[m].links,trapAt w k=false→k∈W
 re:∀x∈W,Reach w id x
theorem Bfs.start {w:PW} {id:Int} (h:1≤id∧id≤(w.runs.length:Int)):Bfs w id [id] 0 :=
 ⟨by simp,fun x hx=>by rw [List.mem_singleton.1 hx];exact h,by simp,fun j hj=>absurd hj (Nat.not_lt_zero _),fun x hx=>by rw [List.mem_singleton.1 hx];exact Reach.self⟩
theorem Bfs.add {w:PW} {id:Int} {W:List Int} {i:Nat} (b:Bfs w id W i) (hi:i<W.length) {m:Nat} (hm:m<w.runs.length) (e:W[i]=(m:Int)+1) {k:Int} (hk:k∈w.runs[m].links) (ht:trapAt w k=false) (hr:1≤k∧k≤(w.runs.length:Int)) (hn:k∉W):Bfs w id (W++[k]) i:=by
 refine⟨List.nodup_append.2 ⟨b.nd,by simp,fun a ha c hc e=>?_⟩,fun x hx=>?_,List.mem_append_left _ b.st,fun j hji hj n hn2 e2 y hy hty=>?_,fun x hx=>?_⟩
 ·rw [List.mem_singleton.1 hc] at e;exact hn (e ▸ ha)
 ·rcases List.mem_append.1 hx with hx|hx
  ·exact b.rng x hx
  ·rw [List.mem_singleton.1 hx];exact hr
 ·have hjW:j<W.length:=Nat.lt_trans hji hi;rw [List.getElem_append_left hjW] at e2;exact List.mem_append_left _ (b.cl j hji hjW n hn2 e2 y hy hty)
 ·rcases List.mem_append.1 hx with hx|hx
  ·exact b.re x hx
  ·rw [List.mem_singleton.1 hx];have:=b.re W[i] (List.getElem_mem _);rw [e] at this;exact Reach.closed m hm this k hk ht
theorem Bfs.next {w:PW} {id:Int} {W:List Int} {i:Nat} (b:Bfs w id W i) (hi:i<W.length) {m:Nat} (hm:m<w.runs.length) (e:W[i]=(m:Int)+1) (hall:∀k∈w.runs[m].links,trapAt w k=false→k∈W):Bfs w id W (i+1):=by
 refine⟨b.nd,b.rng,b.st,fun j hji hj n hn e2 y hy hty=>?_,b.re⟩;rcases Nat.lt_succ_iff_lt_or_eq.1 hji with h|h
 ·exact b.cl j h hj n hn e2 y hy hty
 ·subst h;have hnm:n=m:=by rw [e] at e2;omega
  subst hnm;exact hall y hy hty
theorem Bfs.done {w:PW} {id:Int} {W:List Int} {i:Nat} (b:Bfs w id W i) (hi:W.length≤i):∀x,x∈W↔Reach w id x:=fun x=>by
 refine⟨b.re x,fun h=>h (fun y=>y∈W) (fun m hm hy k hk ht=>?_) b.st⟩;obtain⟨j,hj,e⟩:=List.getElem_of_mem hy;exact b.cl j (by omega) hj m hm e k hk ht
theorem Bfs.len {w:PW} {id:Int} {W:List Int} {i:Nat} (b:Bfs w id W i) (h6:w.runs.length≤6):W.length≤6:=nodup_len 6 _ b.nd fun x hx=>by have:=b.rng x hx;omega
structure IsWith (w:PW) (id:Int) (L:List Int):Prop where
 asc:L.Pairwise (·<·)
 mem:∀x,x∈L↔Reach w id x
def WithOk (w:PW) (id:Int):Prop:=WOk w∧∃m,∃hm:m<w.runs.length,id=(m:Int)+1∧w.runs[m].st≠3
def WithR (w:PW) (id:Int) (L:List Int):Prop:=(WithOk w id∧IsWith w id L)∨(¬WithOk w id∧L=[])
theorem isNaN_con (n:Int) (h:Hp):Con Tryz.prog 165 #[.int .i64 n] h fun r h'=>r=.bool false∧h'=h:=by
 refine Con.of_W (tb:=tbF) (args:=[.int .i64 n]) Tryz.func165 rfl Tryz.results165 Tryz.ntmps165 (by simp) (Tryz.call165 _) (tm:=[(0,.v (.int .i64 n))]) rfl ?_;refine vc_ok ⟨tbF_ok,_,Tryz.func165,Tryz.results165,Tryz.ntmps165⟩ 400 _ _ _ _ ?_;conv=>whnf
 refine⟨congrArg Value.bool ?_,rfl⟩;simp
theorem less_con (a b:Int) (h:Hp):Con Tryz.prog 125 #[.int .i64 a,.int .i64 b] h fun r h'=>r=.bool (decide (a<b))∧h'=h:=by
 refine Con.of_W (tb:=tbF) (args:=[.int .i64 a,.int .i64 b]) Tryz.func125 rfl Tryz.results125 Tryz.ntmps125 (by simp) (Tryz.call125 _) (tm:=[(0,.v (.int .i64 a)),(1,.v (.int .i64 b))]) rfl ?_;refine vc_ok ⟨tbF_ok,_,Tryz.func125,Tryz.results125,Tryz.ntmps125⟩ 400 _ _ _ _ ?_;conv=>whnf
 refine(isNaN_con a h).mono ?_;rintro r h1 ⟨rfl,rfl⟩;conv=>whnf
 refine⟨fun e=>absurd e (by decide),fun _=>?_⟩;conv=>whnf
 exact⟨rfl,rfl⟩
abbrev at0 (M:List Int) (p:Nat):Int:=M.getD p 0
theorem at0_lt {M:List Int} {p:Nat} (h:p<M.length):at0 M p=M[p]:=by simp [at0,h]
theorem at0_set (M:List Int) (i:Nat) (hi:i<M.length) (x:Int) (p:Nat):at0 (M.set i x) p=if p=i then x else at0 M p:=by
 simp only [at0,List.getD_eq_getElem?_getD,List.getElem?_set];by_cases e:i=p
 ·subst e;simp [hi]
 ·simp [e,Ne.symm e]
def swapL (M:List Int) (j:Nat):List Int:=(M.set (j+1) (at0 M j)).set j (at0 M (j+1))
theorem swap_perm (M:List Int) (j:Nat) (hj:j+1<M.length):(swapL M j).Perm M:=by
 have:=List.set_set_perm (i:=j+1) (j:=j) hj (by omega);unfold swapL;rw [at0_lt (by omega),at0_lt hj];exact this
theorem swap_at (M:List Int) (j:Nat) (hj:j+1<M.length) (p:Nat):at0 (swapL M j) p=if p=j then at0 M (j+1) else if p=j+1 then at0 M j else at0 M p:=by
 unfold swapL;rw [at0_set _ _ (by simp;omega),at0_set _ _ hj]
def Srt (M:List Int) (i j:Nat):Prop:=∀p q,p<q→q≤i→q≠j→at0 M p≤at0 M q
theorem Srt.swap {M:List Int} {i j:Nat} (h:Srt M i (j+1)) (hj:j+1≤i) (hi:i<M.length) (hl:at0 M (j+1)<at0 M j):Srt (swapL M j) i j:=by
 intro p q hpq hqi hqj;rw [swap_at M j (by omega),swap_at M j (by omega),if_neg hqj];by_cases hp:p=j
 ·subst hp;rw [if_pos rfl];by_cases hq:q=p+1
  ·rw [if_pos hq];omega
  ·rw [if_neg hq];exact h (p+1) q (by omega) hqi hq
 ·rw [if_neg hp];by_cases hp1:p=j+1
  ·rw [if_pos hp1,if_neg (by omega)];exact h j q (by omega) hqi (by omega)
  ·rw [if_neg hp1];by_cases hq:q=j+1
   ·rw [if_pos hq];exact h p j (by omega) (by omega) (by omega)
   ·rw [if_neg hq];exact h p q hpq hqi hq
theorem Srt.next {M:List Int} {i j:Nat} (h:Srt M i j) (hs:j=0∨∃k,j=k+1∧at0 M k≤at0 M j):∀p q,p<q→q≤i→at0 M p≤at0 M q:=by
 intro p q hpq hqi;by_cases hq:q=j
 ·rcases hs with e|⟨k,e,hk⟩
  ·omega
  ·rw [hq];by_cases hp:p=k
   ·rw [hp];exact hk
   ·have:=h p k (by omega) (by omega) (by omega);omega
 ·exact h p q hpq hqi hq
theorem insertion_con (g cap:Nat) (L:List Int) (hL:L.length≤12) (h:Hp) (l:List Atom) (ho:Own h (.row (rowI (.slice (some ⟨g,0,none⟩) L.length cap) L)::l)) :
  Con Tryz.prog 119 #[.slice (some ⟨g,0,none⟩) L.length cap,.int .i64 (0:Nat),.int .i64 (L.length:Nat)] h fun r h'=>r=.tuple #[]∧∃M:List Int,M.Perm L∧(∀p q,p<q→q<M.length→at0 M p≤at0 M q)∧Own h' (.row (rowI (.slice (some ⟨g,0,none⟩) M.length cap) M)::l):=by
 refine Con.of_W (tb:=tbF) (args:=[.slice (some ⟨g,0,none⟩) L.length cap,.int .i64 (0:Nat),.int .i64 (L.length:Nat)]) Tryz.func119 rfl Tryz.results119 Tryz.ntmps119 (by simp) (Tryz.call119 _) (tm:=[(0,.v (.slice (some ⟨g,0,none⟩) L.length cap)),(1,.v (.int .i64 (0:Nat))),(2,.v (.int .i64 (L.length:Nat)))]) rfl ?_;refine vc_ok ⟨tbF_ok,_,Tryz.func119,Tryz.results119,Tryz.ntmps119⟩ 400 _ _ _ _ ?_;conv=>whnf
 have hw1:IntKind.i64.wrap (((0:Nat):Int)+1)=((1:Nat):Int):=by decide
 rw [hw1];refine W.cut [(6,.v (.int .i64 (1:Nat))),(2,.v (.int .i64 (L.length:Nat))),(1,.v (.int .i64 (0:Nat))),(0,.v (.slice (some ⟨g,0,none⟩) L.length cap))] [] [] ⟨rfl,rfl,rfl,rfl,trivial⟩ rfl rfl ⟨_,rfl⟩ ?_;refine W.loop (α:=Nat) (fun x=>[(6,.v (.int .i64 (x:Nat))),(2,.v (.int .i64 (L.length:Nat))),(1,.v (.int .i64 (0:Nat))),(0,.v (.slice (some ⟨g,0,none⟩) L.length cap))]) (fun _=>[])
  (fun x h'=>1≤x∧(x≤L.length∨x=1)∧∃M:List Int,M.Perm L∧(∀p q,p<q→q≤x-1→at0 M p≤at0 M q)∧Own h' (.row (rowI (.slice (some ⟨g,0,none⟩) M.length cap) M)::l)) (fun x=>L.length-x) ?_ 1 h ⟨Nat.le_refl _,.inr rfl,L,List.Perm.refl _,fun p q h1 h2=>by omega,ho⟩
 rintro i h5 ⟨hi1,hi,M0,hM0,hs0,ho5⟩ ih;refine vc_ok ⟨tbF_ok,_,Tryz.func119,Tryz.results119,Tryz.ntmps119⟩ 400 _ _ _ _ ?_;conv=>whnf
 refine⟨fun c=>?_,fun c=>?_⟩<;>conv=>whnf
 rotate_left
 ·have hge:L.length≤i:=by simp at c;omega
  refine⟨rfl,M0,hM0,fun p q h1 h2=>hs0 p q h1 ?_,ho5⟩;have:=hM0.length_eq;omega
 have hlt:i<L.length:=by simp at c;omega
 refine W.cut [(7,.v (.int .i64 (i:Nat))),(6,.v (.int .i64 (i:Nat))),(2,.v (.int .i64 (L.length:Nat))),(1,.v (.int .i64 (0:Nat))),(0,.v (.slice (some ⟨g,0,none⟩) L.length cap))] [] [] ⟨rfl,rfl,rfl,rfl,rfl,trivial⟩ rfl rfl ⟨_,rfl⟩ ?_;refine W.loop (α:=Nat) (fun x=>[(7,.v (.int .i64 (x:Nat))),(6,.v (.int .i64 (i:Nat))),(2,.v (.int .i64 (L.length:Nat))),(1,.v (.int .i64 (0:Nat))),(0,.v (.slice (some ⟨g,0,none⟩) L.length cap))]) (fun _=>[])
  (fun x h'=>x≤i∧∃M:List Int,M.Perm L∧Srt M i x∧Own h' (.row (rowI (.slice (some ⟨g,0,none⟩) M.length cap) M)::l)) (fun x=>x) ?_ i h5 ⟨Nat.le_refl _,M0,hM0,fun p q h1 h2 h3=>hs0 p q h1 (by omega),ho5⟩
 rintro j h6 ⟨hj,M,hM,hs,ho6⟩ ih2;have hML:=hM.length_eq;have hrow:RowOk h6 (rowI (.slice (some ⟨g,0,none⟩) M.length cap) M):=ho6.rowOk List.mem_cons_self;have hout:(j=0∨∃k,j=k+1∧at0 M k≤at0 M j)→∀p q,p<q→q≤(i+1)-1→at0 M p≤at0 M q:=fun e=>hs.next e
 have hwi:IntKind.i64.wrap ((i:Int)+1)=((i+1:Nat):Int):=by rw [wrapN _ (by omega) (by omega)];omega
 refine vc_ok ⟨tbF_ok,_,Tryz.func119,Tryz.results119,Tryz.ntmps119⟩ 400 _ _ _ _ ?_;conv=>whnf
 refine W.draw [(0,true),(1,true),(2,true),(3,true),(4,true),(5,true),(6,true),(7,true),(8,true),(9,true),(10,true),(11,true),(12,true),(13,false),(14,true)] [] (some h6) 99 (by kernel_rfl) rfl (by kernel_rfl) mixed rfl (fun g e=>by cases e;exact Hp.le_refl _) ?_;refine vc_ok ⟨tbF_ok,_,Tryz.func119,Tryz.results119,Tryz.ntmps119⟩ 400 _ _ _ _ ?_;conv=>whnf
 refine⟨fun c=>?_,fun c=>?_⟩<;>conv=>whnf
 rotate_left
 ·have hj0:j=0:=by simp at c;omega
  rw [hwi];refine W.back (ih (i+1) h6 ⟨by omega,.inl hlt,M,hM,hout (.inl hj0),ho6⟩ (by omega)) [] (by exact⟨rfl,rfl,rfl,rfl,trivial⟩) rfl rfl
 have hj0:0<j:=by simp at c;omega
 obtain⟨k,rfl⟩:∃k,j=k+1:=⟨j-1,by omega⟩;have hwj:IntKind.i64.wrap (((k+1:Nat):Int)-1)=(k:Int):=by rw [wrapN _ (by omega) (by omega)];omega
 have hk1:k+1<M.length:=by omega
 refine Rd.index slInt.u slInt.size rfl rfl rfl (k+1) rfl (by omega) ?_;conv=>whnf
 refine Rd.loadInt rfl hrow rfl hk1 rfl ?_;conv=>whnf
 refine Rd.index slInt.u slInt.size rfl rfl rfl k hwj (by omega) ?_;conv=>whnf
 refine Rd.loadInt rfl hrow rfl (show k<M.length by omega) rfl ?_;conv=>whnf
 refine(less_con M[k+1] M[k] h6).mono ?_;rintro r h7 ⟨rfl,rfl⟩;refine⟨Hp.le_refl _,?_⟩;conv=>whnf
 refine⟨fun c2=>?_,fun c2=>?_⟩<;>conv=>whnf
 rotate_left
 ·have hk:¬M[k+1]<M[k]:=by simpa using c2
  rw [hwi];refine W.back (ih (i+1) h7 ⟨by omega,.inl hlt,M,hM,hout (.inr ⟨k,rfl,by rw [at0_lt hk1,at0_lt (show k<M.length by omega)];omega⟩),ho6⟩ (by omega)) [] (by exact⟨rfl,rfl,rfl,rfl,trivial⟩) rfl rfl
 have hk:M[k+1]<M[k]:=by simpa using c2
 have hkl:k<M.length:=by omega
 have hsw:(M.set (k+1) M[k]).set k M[k+1]=swapL M k:=by unfold swapL;rw [at0_lt hk1,at0_lt hkl]
 have hback:∀h8,Own h8 (.row (rowI (.slice (some ⟨g,0,none⟩) (swapL M k).length cap) (swapL M k))::l)→k≤i∧∃M':List Int,M'.Perm L∧Srt M' i k∧Own h8 (.row (rowI (.slice (some ⟨g,0,none⟩) M'.length cap) M')::l):=fun h8 o8 =>
  ⟨by omega,swapL M k,(swap_perm M k hk1).trans hM,hs.swap hj (by omega) (by rw [at0_lt hk1,at0_lt hkl];exact hk),o8⟩
 refine W.draw [(0,true),(1,true),(2,true),(3,true),(4,true),(5,true),(6,true),(7,true),(8,true),(10,true),(11,true),(12,true),(1009013,false),(13,false),(14,true),(15,false),(16,true),(17,false)] [] none 99 (by kernel_rfl) rfl (by kernel_rfl) mixed rfl (fun g e=>by cases e) ?_;refine vc_ok ⟨tbF_ok,_,Tryz.func119,Tryz.results119,Tryz.ntmps119⟩ 400 _ _ _ _ ?_;conv=>whnf
 refine Rd.index slInt.u slInt.size rfl rfl rfl k hwj (by omega) ?_;conv=>whnf
 refine Rd.index slInt.u slInt.size rfl rfl rfl (k+1) rfl (by omega) ?_;conv=>whnf
 refine⟨?_,?_⟩<;>conv=>whnf
 ·refine Ext.loadInt rfl hrow rfl hkl rfl ?_;conv=>whnf
  refine Ext.loadInt rfl hrow rfl hk1 rfl ?_;conv=>whnf
  refine Rd.index slInt.u slInt.size rfl rfl rfl (k+1) rfl (by omega) ?_;conv=>whnf
  refine Ext.storeInt rfl ho6 hk1 rfl M[k] rfl fun h8 ho8=>?_
  conv=>whnf
  refine Rd.index slInt.u slInt.size rfl rfl rfl k hwj (by omega) ?_;conv=>whnf
  refine Ext.storeInt rfl ho8 (by simp;omega) rfl M[k+1] rfl fun h9 ho9=>?_
  rw [hsw] at ho9;conv=>whnf
  rw [hwj];refine W.back (ih2 k h9 (hback h9 ho9) (by omega)) [] (by exact⟨rfl,rfl,rfl,rfl,rfl,trivial⟩) rfl rfl
 ·refine Ext.loadInt rfl hrow rfl hk1 rfl ?_;conv=>whnf
  refine Ext.loadInt rfl hrow rfl hkl rfl ?_;conv=>whnf
  refine Rd.index slInt.u slInt.size rfl rfl rfl (k+1) rfl (by omega) ?_;conv=>whnf
  refine Ext.storeInt rfl ho6 hk1 rfl M[k] rfl fun h8 ho8=>?_
  conv=>whnf
  refine Rd.index slInt.u slInt.size rfl rfl rfl k hwj (by omega) ?_;conv=>whnf
  refine Ext.storeInt rfl ho8 (by simp;omega) rfl M[k+1] rfl fun h9 ho9=>?_
  rw [hsw] at ho9;conv=>whnf
  rw [hwj];refine W.back (ih2 k h9 (hback h9 ho9) (by omega)) [] (by exact⟨rfl,rfl,rfl,rfl,rfl,trivial⟩) rfl rfl
theorem pdqsort_con (g cap:Nat) (L:List Int) (hL:L.length≤12) (lim:Int) (h:Hp) (l:List Atom) (ho:Own h (.row (rowI (.slice (some ⟨g,0,none⟩) L.length cap) L)::l)) :
  Con Tryz.prog 87 #[.slice (some ⟨g,0,none⟩) L.length cap,.int .i64 (0:Nat),.int .i64 (L.length:Nat),.int .i64 lim] h fun r h'=>r=.tuple #[]∧∃M:List Int,M.Perm L∧(∀p q,p<q→q<M.length→at0 M p≤at0 M q)∧Own h' (.row (rowI (.slice (some ⟨g,0,none⟩) M.length cap) M)::l):=by
 refine Con.of_W (tb:=tbF) (args:=[.slice (some ⟨g,0,none⟩) L.length cap,.int .i64 (0:Nat),.int .i64 (L.length:Nat),.int .i64 lim]) Tryz.func87 rfl Tryz.results87 Tryz.ntmps87 (by simp) (Tryz.call87 _) (tm:=[(0,.v (.slice (some ⟨g,0,none⟩) L.length cap)),(1,.v (.int .i64 (0:Nat))),(2,.v (.int .i64 (L.length:Nat))),(3,.v (.int .i64 lim))]) rfl ?_;refine vc_ok ⟨tbF_ok,_,Tryz.func87,Tryz.results87,Tryz.ntmps87⟩ 400 _ _ _ _ ?_;conv=>whnf
 have hw1:IntKind.i64.wrap ((L.length:Int)-((0:Nat):Int))=(L.length:Int):=by rw [wrapN _ (by omega) (by omega)];omega
 refine W.cut [(2,.v (.int .i64 (L.length:Nat))),(1,.v (.int .i64 (0:Nat))),(0,.v (.slice (some ⟨g,0,none⟩) L.length cap))] [] [] ⟨rfl,rfl,rfl,trivial⟩ rfl rfl ⟨_,rfl⟩ ?_;refine W.loop (α:=Unit) (fun _=>[(2,.v (.int .i64 (L.length:Nat))),(1,.v (.int .i64 (0:Nat))),(0,.v (.slice (some ⟨g,0,none⟩) L.length cap))]) (fun _=>[]) (fun _ h'=>h'=h) (fun _=>0) ?_ () h rfl;rintro _ h5 rfl _;refine vc_ok ⟨tbF_ok,_,Tryz.func87,Tryz.results87,Tryz.ntmps87⟩ 400 _ _ _ _ ?_;conv=>whnf
 refine⟨fun c=>?_,fun c=>?_⟩;rotate_left
 ·rw [hw1] at c;have:¬((L.length:Int)≤12):=by simpa using c
  omega
 conv=>whnf
 refine(insertion_con g cap L hL h5 l ho).mono ?_;rintro r h1 ⟨rfl,M,hM⟩;conv=>whnf
 exact⟨rfl,M,hM⟩
theorem len64_con (n:Nat) (hn:n≤6) (h:Hp):Con Tryz.prog 129 #[.int .u64 (n:Int)] h fun r h'=>(∃m:Int,r=.int .i64 m)∧h'=h:=by
 have:n=0∨n=1∨n=2∨n=3∨n=4∨n=5∨n=6:=by omega
 refine Con.of_W (tb:=tbF) (args:=[.int .u64 (n:Int)]) Tryz.func129 rfl Tryz.results129 Tryz.ntmps129 (by simp) (Tryz.call129 _) (tm:=[(0,.v (.int .u64 (n:Int)))]) rfl ?_;refine vc_ok ⟨tbF_ok,_,Tryz.func129,Tryz.results129,Tryz.ntmps129⟩ 400 _ _ _ _ ?_;conv=>whnf
 refine⟨fun c=>absurd c (by simp;omega),fun _=>?_⟩;conv=>whnf
 refine⟨fun c=>absurd c (by simp;omega),fun _=>?_⟩;conv=>whnf
 refine⟨fun c=>absurd c (by simp;omega),fun _=>?_⟩;conv=>whnf
 rcases this with rfl|rfl|rfl|rfl|rfl|rfl|rfl
 ·refine Ext.val (.int .u8 0) (fun w=>by kernel_rfl) ?_;conv=>whnf
  refine Ext.val (.int .u8 0) (fun w=>by kernel_rfl) ?_;conv=>whnf
  refine Ext.val (.int .i64 0) (fun w=>by kernel_rfl) ?_;conv=>whnf
  exact⟨⟨_,rfl⟩,rfl⟩
 ·refine Ext.val (.int .u8 1) (fun w=>by kernel_rfl) ?_;conv=>whnf
  refine Ext.val (.int .u8 1) (fun w=>by kernel_rfl) ?_;conv=>whnf
  refine Ext.val (.int .i64 1) (fun w=>by kernel_rfl) ?_;conv=>whnf
  exact⟨⟨_,rfl⟩,rfl⟩
 ·refine Ext.val (.int .u8 2) (fun w=>by kernel_rfl) ?_;conv=>whnf
  refine Ext.val (.int .u8 2) (fun w=>by kernel_rfl) ?_;conv=>whnf
  refine Ext.val (.int .i64 2) (fun w=>by kernel_rfl) ?_;conv=>whnf
  exact⟨⟨_,rfl⟩,rfl⟩
 ·refine Ext.val (.int .u8 3) (fun w=>by kernel_rfl) ?_;conv=>whnf
  refine Ext.val (.int .u8 2) (fun w=>by kernel_rfl) ?_;conv=>whnf
  refine Ext.val (.int .i64 2) (fun w=>by kernel_rfl) ?_;conv=>whnf
  exact⟨⟨_,rfl⟩,rfl⟩
 ·refine Ext.val (.int .u8 4) (fun w=>by kernel_rfl) ?_;conv=>whnf
  refine Ext.val (.int .u8 3) (fun w=>by kernel_rfl) ?_;conv=>whnf
  refine Ext.val (.int .i64 3) (fun w=>by kernel_rfl) ?_;conv=>whnf
  exact⟨⟨_,rfl⟩,rfl⟩
 ·refine Ext.val (.int .u8 5) (fun w=>by kernel_rfl) ?_;conv=>whnf
  refine Ext.val (.int .u8 3) (fun w=>by kernel_rfl) ?_;conv=>whnf
  refine Ext.val (.int .i64 3) (fun w=>by kernel_rfl) ?_;conv=>whnf
  exact⟨⟨_,rfl⟩,rfl⟩
 ·refine Ext.val (.int .u8 6) (fun w=>by kernel_rfl) ?_;conv=>whnf
  refine Ext.val (.int .u8 3) (fun w=>by kernel_rfl) ?_;conv=>whnf
  refine Ext.val (.int .i64 3) (fun w=>by kernel_rfl) ?_;conv=>whnf
  exact⟨⟨_,rfl⟩,rfl⟩
theorem bitsLen_con (n:Nat) (hn:n≤6) (h:Hp):Con Tryz.prog 88 #[.int .u64 (n:Int)] h fun r h'=>(∃m:Int,r=.int .i64 m)∧h'=h:=by
 refine Con.of_W (tb:=tbF) (args:=[.int .u64 (n:Int)]) Tryz.func88 rfl Tryz.results88 Tryz.ntmps88 (by simp) (Tryz.call88 _) (tm:=[(0,.v (.int .u64 (n:Int)))]) rfl ?_;refine vc_ok ⟨tbF_ok,_,Tryz.func88,Tryz.results88,Tryz.ntmps88⟩ 400 _ _ _ _ ?_;conv=>whnf
 refine(len64_con n hn h).mono ?_;rintro r h1 ⟨⟨m,rfl⟩,rfl⟩;conv=>whnf
 exact⟨⟨m,rfl⟩,rfl⟩
theorem sort_con (g cap:Nat) (L:List Int) (hL:L.length≤6) (h:Hp) (l:List Atom) (ho:Own h (.row (rowI (.slice (some ⟨g,0,none⟩) L.length cap) L)::l)) :
  Con Tryz.prog 56 #[.slice (some ⟨g,0,none⟩) L.length cap] h fun r h'=>r=.tuple #[]∧∃M:List Int,M.Perm L∧(∀p q,p<q→q<M.length→at0 M p≤at0 M q)∧Own h' (.row (rowI (.slice (some ⟨g,0,none⟩) M.length cap) M)::l):=by
 refine Con.of_W (tb:=tbF) (args:=[.slice (some ⟨g,0,none⟩) L.length cap]) Tryz.func56 rfl Tryz.results56 Tryz.ntmps56 (by simp) (Tryz.call56 _) (tm:=[(0,.v (.slice (some ⟨g,0,none⟩) L.length cap))]) rfl ?_;refine vc_ok ⟨tbF_ok,_,Tryz.func56,Tryz.results56,Tryz.ntmps56⟩ 400 _ _ _ _ ?_;conv=>whnf
 have hc:∀_:Unit,IntKind.u64.wrap (L.length:Int)=(L.length:Int):=fun _=>by
  have:L.length=0∨L.length=1∨L.length=2∨L.length=3∨L.length=4∨L.length=5∨L.length=6:=by omega
  rcases this with e|e|e|e|e|e|e<;>rw [e]<;>decide
 refine Ext.val (.int .u64 (IntKind.u64.wrap (L.length:Int))) (fun w=>by kernel_rfl) ?_;rw [hc ()];conv=>whnf
 refine(bitsLen_con L.length hL h).mono ?_;rintro r h1 ⟨⟨m,rfl⟩,rfl⟩;conv=>whnf
 refine(pdqsort_con g cap L (by omega) m h1 l ho).mono ?_;rintro r h2 ⟨rfl,M,hM⟩;conv=>whnf
 exact⟨rfl,M,hM⟩
theorem asc_of {M W:List Int} (hp:M.Perm W) (hn:W.Nodup) (hs:∀p q,p<q→q<M.length→at0 M p≤at0 M q):M.Pairwise (·<·) :=
 List.pairwise_iff_getElem.2 fun i j hi hj hij=>by
  have h1:=hs i j hij hj;have h2:=(List.pairwise_iff_getElem.1 (hp.nodup_iff.2 hn)) i j hi hj hij;rw [at0_lt hi,at0_lt hj] at h1;omega
abbrev zRun:Value:=.agg #[.int .i64 0,.int .i64 0,.slice none 0 0,.int .i64 0,.slice none 0 0,.int .i64 0,.int .i64 0,.slice none 0 0,.slice none 0 0,.bool false,.int .i64 0,.int .i64 0,.int .i64 0]
theorem OkS.linked {w:PW} {V:List Int} (ok:OkS w V) (m:Nat) (hm:m<w.runs.length) {x:Int} (hx:x∈w.runs[m].links):1≤x∧x≤(w.runs.length:Int):=by
 have hF:=ok.run m hm;have h1:=(hF.l1 x hx).1;by_cases h3:w.runs[m].st=3
 ·rw [(hF.fin h3).2.1] at hx;cases hx
 ·exact⟨h1.1,(ok.fit m hm).ties h3 x (List.mem_append_left _ hx)⟩
theorem aliveRun_con (D:WD) (hsm:D.pure.Sm) (hy:∀d∈D.pure.runs,okV (d.wk,d.wn)=true) (id:Int) (h:Hp) (hw:WI h D) (hwn:WIn h D) :
  Con Tryz.prog 54 #[D.val,.int .i64 id] h fun r h'=>(((∃d p,r=.tuple #[RunD.val d p,.bool true])∧WithOk D.pure id)∨(r=.tuple #[zRun,.bool false]∧¬WithOk D.pure id))∧h'=h:=by
 have hlp:=pure_len D;refine Con.of_W (tb:=tbF) (args:=[D.val,.int .i64 id]) Tryz.func54 rfl Tryz.results54 Tryz.ntmps54 (by simp) (Tryz.call54 _) (tm:=[(0,.a D.cells),(1,.v (.int .i64 id))]) rfl ?_;refine vc_ok ⟨tbF_ok,_,Tryz.func54,Tryz.results54,Tryz.ntmps54⟩ 400 _ _ _ _ ?_;conv=>whnf
 refine(iWorldOk_con D hsm hy h hw).mono ?_;rintro r h1 ⟨⟨b,rfl,hb⟩,rfl⟩;conv=>whnf
 refine⟨fun b0=>?_,fun b0=>?_⟩<;>conv=>whnf
 rotate_left
 ·exact⟨.inr ⟨rfl,fun g=>by have:=hb.2 g.1;rw [this] at b0;cases b0⟩,rfl⟩
 have hok:WOk D.pure:=hb.1 (by simpa using b0);refine⟨fun b1=>?_,fun b1=>?_⟩<;>conv=>whnf
 rotate_left
 ·exact⟨.inr ⟨rfl,fun⟨_,m,hm,e,_⟩=>by simp at b1;omega⟩,rfl⟩
 have hid1:1≤id:=by simp at b1;omega
 refine⟨fun b2=>?_,fun b2=>?_⟩<;>conv=>whnf
 rotate_left
 ·exact⟨.inr ⟨rfl,fun⟨_,m,hm,e,_⟩=>by simp at b2;omega⟩,rfl⟩
 have hid2:id≤(D.runs.length:Int):=by simp at b2;omega
 obtain⟨m,rfl⟩:∃m:Nat,id=(m:Int)+1:=⟨(id-1).toNat,by omega⟩;have hm:m<D.runs.length:=by omega
 have h6:D.runs.length≤6:=by obtain⟨_,V,_,ok⟩:=hok;have:=ok.n6;omega
 have hwm:IntKind.i64.wrap (((m:Int)+1)-1)=(m:Int):=by rw [wrapN _ (by omega) (by omega)];omega
 obtain⟨g,hra⟩:=row_some hwn.runs (by omega);refine Ext.index slRun.u slRun.size rfl (by exact rv_same hra) rfl m hwm hm ?_;conv=>whnf
 refine Ext.loadRunCell (D:=D) rfl ⟨rfl,rfl⟩ rfl hwn.runs (rv_same hra) hm 5 (by omega) rfl (.int .i64 D.runs[m].1.st) rfl ?_;conv=>whnf
 refine⟨fun b3=>?_,fun b3=>?_⟩<;>conv=>whnf
 ·refine⟨.inr ⟨rfl,fun⟨_,n,hn,e,hs⟩=>?_⟩,rfl⟩;obtain rfl:m=n:=by omega
  rw [pure_get D m hm hn] at hs;exact hs (by simpa using b3)
 refine Ext.index slRun.u slRun.size rfl (by exact rv_same hra) rfl m hwm hm ?_;conv=>whnf
 refine Ext.loadRun rfl hwn.runs (rv_same hra) hm rfl ?_;conv=>whnf
 refine⟨.inl ⟨⟨D.runs[m].1,D.runs[m].2,rfl⟩,hok,m,by omega,rfl,?_⟩,rfl⟩;rw [pure_get D m hm (by omega)];simpa using b3
theorem iFallWith_con (D:WD) (hsm:D.pure.Sm) (hy:∀d∈D.pure.runs,okV (d.wk,d.wn)=true) (id:Int) (h:Hp) (l:List Atom) (ho:Own h (wAtoms D++l)) :
  Con Tryz.prog 24 #[D.val,.int .i64 id] h fun r h'=>∃(L:List Int) (a:Option Addr) (c:Nat),r=.slice a L.length c∧WithR D.pure id L∧Own h' (.row (rowI (.slice a L.length c) L)::(wAtoms D++l)):=by
 have hwi:WI h D:=(ho.win fun x hx=>List.mem_append_left _ hx).wi;have hwn:WIn h D:=ho.win fun x hx=>List.mem_append_left _ hx
 have hlp:=pure_len D;refine Con.of_W (tb:=tbF) (args:=[D.val,.int .i64 id]) Tryz.func24 rfl Tryz.results24 Tryz.ntmps24 (by simp) (Tryz.call24 _) (tm:=[(0,.a D.cells),(1,.v (.int .i64 id))]) rfl ?_;refine vc_ok ⟨tbF_ok,_,Tryz.func24,Tryz.results24,Tryz.ntmps24⟩ 400 _ _ _ _ ?_;conv=>whnf
 refine(aliveRun_con D hsm hy id h hwi hwn).mono ?_;rintro r h1 ⟨⟨⟨d,p,rfl⟩,hok⟩|⟨rfl,hno⟩,rfl⟩;rotate_left
 ·conv=>whnf
  refine⟨fun _=>?_,fun e=>absurd e (by decide)⟩;conv=>whnf
  exact⟨[],none,0,rfl,.inr ⟨hno,rfl⟩,Own.nilI ho⟩
 conv=>whnf
 refine⟨fun e=>absurd e (by decide),fun _=>?_⟩;conv=>whnf
 have hok':=hok;obtain⟨⟨hsafe,V,hV,ok⟩,m0,hm0,hid,hs0⟩:=hok';have h6:=ok.n6;refine Ext.litI rfl ho id rfl fun g0 h2 hle ho2=>?_
 conv=>whnf
 have hst:Bfs D.pure id [id] 0:=Bfs.start ⟨by omega,by omega⟩;obtain⟨gr,hra⟩:=row_some hwn.runs (by omega);refine W.cut [(8,.v (.int .i64 (0:Nat))),(7,.v (.slice (some ⟨g0,0,none⟩) [id].length 1)),(2,.p 0 0)] [⟨27,D.cells⟩,⟨34,d.cells p⟩] [] ⟨rfl,rfl,rfl,trivial⟩ rfl rfl ⟨_,rfl⟩ ?_;refine W.loop (α:=Nat×List Int×Option Addr×Nat) (fun x=>[(8,.v (.int .i64 (x.1:Nat))),(7,.v (.slice x.2.2.1 x.2.1.length x.2.2.2)),(2,.p 0 0)]) (fun _=>[⟨27,D.cells⟩,⟨34,d.cells p⟩])
  (fun x h'=>x.1≤x.2.1.length∧Bfs D.pure id x.2.1 x.1∧Own h' (.row (rowI (.slice x.2.2.1 x.2.1.length x.2.2.2) x.2.1)::(wAtoms D++l))) (fun x=>7-x.1) ?_ (0,[id],some ⟨g0,0,none⟩,1) h2 ⟨Nat.zero_le _,hst,ho2⟩
 rintro⟨i,Q,a,c⟩ h3 ⟨hi,hB,ho3⟩ ih;dsimp only at hi hB ho3 ⊢;have hQ6:=hB.len h6;refine vc_ok ⟨tbF_ok,_,Tryz.func24,Tryz.results24,Tryz.ntmps24⟩ 400 _ _ _ _ ?_;conv=>whnf
 refine⟨fun c0=>?_,fun c0=>?_⟩<;>conv=>whnf
 rotate_left
 ·have hge:Q.length≤i:=by simp at c0;omega
  have hpos:0<Q.length:=List.length_pos_of_mem hB.st;obtain⟨g,rfl⟩:=row_some (ho3.rowOk (r:=rowI (.slice a Q.length c) Q) List.mem_cons_self) (by omega);refine(sort_con g c Q hQ6 h3 _ ho3).mono ?_;rintro r h4 ⟨rfl,M,hM,hs,ho4⟩;have hlen:=hM.length_eq;conv=>whnf
  refine⟨M,some ⟨g,0,none⟩,c,by rw [hlen];rfl,.inl ⟨hok,asc_of hM hB.nd hs,fun x=>(hM.mem_iff).trans (hB.done hge x)⟩,ho4⟩
 have hlt:i<Q.length:=by simp at c0;omega
 have hr:=hB.rng _ (List.getElem_mem hlt);obtain⟨m,hQm⟩:∃m:Nat,Q[i]=(m:Int)+1:=⟨(Q[i]-1).toNat,by omega⟩;have hm:m<D.runs.length:=by omega
 have hwm:IntKind.i64.wrap (Q[i]-1)=(m:Int):=by rw [wrapN _ (by omega) (by omega)];omega
 obtain⟨gq,rfl⟩:=row_some (ho3.rowOk (r:=rowI (.slice a Q.length c) Q) List.mem_cons_self) (by omega);have hrq:RowOk h3 (rowI (.slice (some ⟨gq,0,none⟩) Q.length c) Q):=ho3.rowOk List.mem_cons_self;have hw3:WIn h3 D:=ho3.win fun x hx=>List.mem_cons_of_mem _ (List.mem_append_left _ hx)
 have hrun:=ok.run m (by omega);have hpm:=pure_get D m hm (by omega);rw [hpm] at hrun;have hlk6:D.runs[m].1.links.length≤6:=nodup_len 6 _ hrun.l2 fun x hx=>(hrun.l1 x hx).1
 refine W.draw [(0,true),(1,true),(2,true),(3,true),(4,true),(5,true),(6,true),(7,true),(8,true),(9,true),(10,true),(11,true)] [0] (some h3) 99 (by kernel_rfl) rfl (by kernel_rfl) mixed rfl (fun g e=>by cases e;exact Hp.le_refl _) ?_;refine vc_ok ⟨tbF_ok,_,Tryz.func24,Tryz.results24,Tryz.ntmps24⟩ 400 _ _ _ _ ?_;conv=>whnf
 refine Rd.index slInt.u slInt.size rfl rfl rfl i rfl hlt ?_;conv=>whnf
 refine Rd.loadInt rfl hrq rfl hlt rfl ?_;conv=>whnf
 refine Rd.index slRun.u slRun.size rfl (by exact rv_same hra) rfl m hwm hm ?_;conv=>whnf
 refine Rd.loadRunCell (D:=D) rfl ⟨rfl,rfl⟩ rfl hw3.runs (rv_same hra) hm 7 (by omega) rfl (.slice D.runs[m].2.a2 D.runs[m].1.links.length D.runs[m].2.k2) rfl ?_;conv=>whnf
 have hwi1:IntKind.i64.wrap ((i:Int)+1)=((i+1:Nat):Int):=by rw [wrapN _ (by omega) (by omega)];omega
 refine W.cut [(38,.v (.int .i64 (0:Nat))),(37,.v (.int .i64 (D.runs[m].1.links.length:Nat))),(36,.v (.slice D.runs[m].2.a2 D.runs[m].1.links.length D.runs[m].2.k2)),(8,.v (.int .i64 (i:Nat))),(7,.v (.slice (some ⟨gq,0,none⟩) Q.length c)),(2,.p 0 0)] [⟨27,D.cells⟩,⟨34,d.cells p⟩] [] ⟨rfl,rfl,rfl,rfl,rfl,rfl,trivial⟩ rfl rfl ⟨_,rfl⟩ ?_;refine W.loop (α:=Nat×List Int×Option Addr×Nat) (fun x=>[(38,.v (.int .i64 (x.1:Nat))),(37,.v (.int .i64 (D.runs[m].1.links.length:Nat))),(36,.v (.slice D.runs[m].2.a2 D.runs[m].1.links.length D.runs[m].2.k2)),(8,.v (.int .i64 (i:Nat))),(7,.v (.slice x.2.2.1 x.2.1.length x.2.2.2)),(2,.p 0 0)]) (fun _=>[⟨27,D.cells⟩,⟨34,d.cells p⟩])
  (fun x h'=>x.1≤D.runs[m].1.links.length∧Bfs D.pure id x.2.1 i∧(∃hi:i<x.2.1.length,x.2.1[i]=(m:Int)+1)∧(∀k∈D.runs[m].1.links.take x.1,trapAt D.pure k=false→k∈x.2.1)∧Own h' (.row (rowI (.slice x.2.2.1 x.2.1.length x.2.2.2) x.2.1)::(wAtoms D++l))) (fun x=>D.runs[m].1.links.length-x.1) ?_ (0,Q,some ⟨gq,0,none⟩,c) h3 ⟨Nat.zero_le _,hB,⟨hlt,hQm⟩,fun k hk=>(by simp at hk),ho3⟩
 rintro⟨j,R,a5,c5⟩ h5 ⟨hj,hB5,⟨hi5,hRm⟩,hall,ho5⟩ ih5;dsimp only at hj hB5 hi5 hRm hall ho5 ⊢;have hR6:=hB5.len h6;have hw5:WIn h5 D:=ho5.win fun x hx=>List.mem_cons_of_mem _ (List.mem_append_left _ hx)
 have hr5:RowOk h5 (rowI (.slice a5 R.length c5) R):=ho5.rowOk List.mem_cons_self;have hrl:=(hw5.each m hm).r2;have hwj1:IntKind.i64.wrap ((j:Int)+1)=((j+1:Nat):Int):=by rw [wrapN _ (by omega) (by omega)];omega
 have hnext:∀(k:Int) (hjl:j<D.runs[m].1.links.length),k=D.runs[m].1.links[j]→∀R':List Int,(∀x∈R,x∈R')→(trapAt D.pure k=false→k∈R')→∀x∈D.runs[m].1.links.take (j+1),trapAt D.pure x=false→x∈R':=fun k hjl hk R' hsub hin x hx ht=>by
  rw [List.take_succ_eq_append_getElem hjl,List.mem_append,List.mem_singleton] at hx;rcases hx with hx|hx
  ·exact hsub x (hall x hx ht)
  ·rw [hx,←hk];exact hin (by rw [hk,←hx];exact ht)
 refine vc_ok ⟨tbF_ok,_,Tryz.func24,Tryz.results24,Tryz.ntmps24⟩ 400 _ _ _ _ ?_;conv=>whnf
 refine⟨fun c1=>?_,fun c1=>?_⟩<;>conv=>whnf
 rotate_left
 ·have hge:j=D.runs[m].1.links.length:=by simp at c1;omega
  rw [hwi1];refine W.back (ih (i+1,R,a5,c5) h5 ⟨hi5,hB5.next hi5 (by omega) hRm (fun k hk ht=>?_),ho5⟩ (by dsimp only;omega)) [] (by exact⟨rfl,rfl,rfl,trivial⟩) rfl rfl;rw [hpm] at hk;exact hall k (by rw [hge,List.take_length];exact hk) ht
 have hjl:j<D.runs[m].1.links.length:=by simp at c1;omega
 obtain⟨gl,hla⟩:=row_some hrl (by omega);have hko:=ok.linked m (by omega) (x:=D.runs[m].1.links[j]) (by rw [hpm];exact List.getElem_mem _);obtain⟨n,hn⟩:∃n:Nat,D.runs[m].1.links[j]=(n:Int)+1:=⟨(D.runs[m].1.links[j]-1).toNat,by omega⟩;have hnl:n<D.runs.length:=by omega
 have hwn2:IntKind.i64.wrap (D.runs[m].1.links[j]-1)=(n:Int):=by rw [wrapN _ (by omega) (by omega)];omega
 have htr:trapAt D.pure D.runs[m].1.links[j]=D.runs[n].1.trap:=by
  rw [hn,trapAt_eq (by omega),pure_get D n hnl (by omega)]
 refine Ext.index slInt.u slInt.size rfl (by show Value.slice D.runs[m].2.a2 _ _=_;rw [hla]) rfl j rfl hjl ?_;conv=>whnf
 refine Ext.loadInt rfl hrl (by show Value.slice D.runs[m].2.a2 _ _=_;rw [hla]) hjl rfl ?_;conv=>whnf
 refine Ext.index slRun.u slRun.size rfl (by exact rv_same hra) rfl n hwn2 hnl ?_;conv=>whnf
 refine Ext.loadRunCell (D:=D) rfl ⟨rfl,rfl⟩ rfl hw5.runs (rv_same hra) hnl 9 (by omega) rfl (.bool D.runs[n].1.trap) rfl ?_;conv=>whnf
 refine⟨fun c2=>?_,fun c2=>?_⟩<;>conv=>whnf
 ·refine(contains_con _ _ _ _ (by omega) h5 hr5).mono ?_;rintro r h6 ⟨rfl,rfl⟩;conv=>whnf
  refine⟨fun c3=>?_,fun c3=>?_⟩<;>conv=>whnf
  ·have hnin:D.runs[m].1.links[j]∉R:=fun hx=>by
    have:=among_mem.2 hx;rw [this] at c3
    cases c3
   have htf:trapAt D.pure D.runs[m].1.links[j]=false:=by rw [htr];simpa using c2
   refine Ext.litI rfl ho5 D.runs[m].1.links[j] rfl fun g9 h9 hle9 ho9=>?_
   conv=>whnf
   refine Ext.pushI rfl ho9 rfl rfl (by omega) fun a7 c7 h7 ho7=>?_
   conv=>whnf
   rw [hwj1];have hB7:=hB5.add hi5 (by omega:m<D.pure.runs.length) hRm (k:=D.runs[m].1.links[j]) (by rw [hpm];exact List.getElem_mem _) htf hko hnin;refine W.back (ih5 (j+1,R++[D.runs[m].1.links[j]],a7,c7) h7 ⟨hjl,hB7,⟨by simp;omega,by rw [←hRm];exact List.getElem_append_left hi5⟩,hnext _ hjl rfl _ (fun _ hx=>List.mem_append_left _ hx) (fun _=>List.mem_append_right _ (List.mem_singleton_self _)),ho7⟩ (by dsimp only;omega)) [] (by exact⟨rfl,rfl,rfl,rfl,rfl,rfl,trivial⟩) rfl rfl
  ·rw [hwj1];refine W.back (ih5 (j+1,R,a5,c5) h6 ⟨hjl,hB5,⟨hi5,hRm⟩,hnext _ hjl rfl R (fun _ hx=>hx) (fun _=>among_mem.1 (by simpa using c3)),ho5⟩ (by dsimp only;omega)) [] (by exact⟨rfl,rfl,rfl,rfl,rfl,rfl,trivial⟩) rfl rfl
 ·rw [hwj1];refine W.back (ih5 (j+1,R,a5,c5) h5 ⟨hjl,hB5,⟨hi5,hRm⟩,hnext _ hjl rfl R (fun _ hx=>hx) (fun ht=>absurd ht ?_),ho5⟩ (by dsimp only;omega)) [] (by exact⟨rfl,rfl,rfl,rfl,rfl,rfl,trivial⟩) rfl rfl;rw [htr];intro e;rw [e] at c2
  cases c2
theorem OkS.sym {w:PW} {V:List Int} (ok:OkS w V) {m n:Nat} (hm:m<w.runs.length) (hn:n<w.runs.length) (h:((n:Int)+1)∈w.runs[m].links):((m:Int)+1)∈w.runs[n].links:=by
 have hne:m≠n:=fun e=>by
  subst e;have:=((ok.run m hm).l1 _ h).2;rw [(ok.fit m hm).id] at this;exact this rfl
 by_cases hlt:n<m
 ·have:=ok.both m n hm hlt;rw [among_mem.2 h] at this;exact among_mem.1 this.symm
 ·have:=ok.both n m hn (by omega);rw [among_mem.2 h] at this;exact among_mem.1 this
theorem Reach.rng {w:PW} {V:List Int} (ok:OkS w V) {id:Int} (hid:1≤id∧id≤(w.runs.length:Int)) {x:Int} (h:Reach w id x):1≤x∧x≤(w.runs.length:Int) :=
 h (fun y=>1≤y∧y≤(w.runs.length:Int)) (fun m hm _ _ hk _=>ok.linked m hm hk) hid
theorem Reach.alive {w:PW} {V:List Int} (ok:OkS w V) {i:Nat} (hi:i<w.runs.length) (hs:w.runs[i].st≠3) {m:Nat} (hm:m<w.runs.length) (h:Reach w ((i:Int)+1) ((m:Int)+1)):w.runs[m].st≠3:=by
 refine h (fun y=>∀n (hn:n<w.runs.length),y=(n:Int)+1→w.runs[n].st≠3) (fun a ha _ k hk _ n hn e h3=>?_) (fun n hn e=>?_) m hm rfl
 ·subst e;have:=ok.sym ha hn hk;rw [((ok.run n hn).fin h3).2.1] at this
  cases this
 ·obtain rfl:i=n:=by omega
  exact hs
theorem IsWith.len {w:PW} {V:List Int} (ok:OkS w V) {id:Int} {L:List Int} (h:IsWith w id L) (hid:1≤id∧id≤(w.runs.length:Int)):L.length≤6:=by
 have h6:=ok.n6;refine nodup_len 6 L (h.asc.imp fun hab=>by omega) fun x hx=>?_
 have:=((h.mem x).1 hx).rng ok hid;omega
theorem WithR.len {w:PW} {id:Int} {L:List Int} (h:WithR w id L):L.length≤6:=by
 rcases h with⟨⟨⟨_,V,_,ok⟩,m,hm,rfl,_⟩,k⟩|⟨_,rfl⟩
 ·exact k.len ok (by omega)
 ·simp
end Go.Proofs.YtgmkmeodimmdoaaGreatDoor
