import Derived.Test.YtgmkmeodimmdoaaGreatDoorMTb
import Derived.Test.YtgmkmeodimmdoaaGreatDoorMSp
namespace Go.Proofs.YtgmkmeodimmdoaaGreatDoor
open Go.RowKit
set_option maxRecDepth 100000
abbrev zCells:List Value:=[.slice none 0 0,.slice none 0 0,.slice none 0 0,.int .i64 0,.int .i64 0,.int .i64 0,.int .i64 0]
theorem l72Linked_con (c:RdC) (hc:c.Ok) (p:Int) (hp0:0≤p) (hp1:p≤400000) (h:Hp) (l:List Atom) (ho:Own h (c.atoms p++l)) :
  Con Tryz.prog 45 #[.pointer (some ⟨c.R,0,none⟩)] h fun r h'=>∃(D:WD) (p':Int),r=D.val∧DrawnW D.pure∧p≤p'∧p'≤p+7300∧Own h' (c.atoms p'++(wAtoms D++l)):=by
 refine Con.of_W (tb:=tbF) (args:=[.pointer (some ⟨c.R,0,none⟩)]) Tryz.func45 rfl Tryz.results45 Tryz.ntmps45 (by simp) (Tryz.call45 _) (tm:=[(0,.v (.pointer (some ⟨c.R,0,none⟩)))]) rfl ?_;refine vc_ok ⟨tbF_ok,_,Tryz.func45,Tryz.results45,Tryz.ntmps45⟩ 400 _ _ _ _ ?_;conv=>whnf
 refine(l72World_con c hc p hp0 (by omega) h l ho).mono ?_;rintro r h1 ⟨D,q,rfl,hd,hq1,hq2,ho1⟩;conv=>whnf
 refine W.cut [(4,.v (.int .i64 (0:Nat))),(3,.p 1 0),(2,.p 0 0),(0,.v (.pointer (some ⟨c.R,0,none⟩)))] [⟨27,zCells⟩,⟨27,D.cells⟩] [] ⟨rfl,rfl,rfl,rfl,trivial⟩ rfl rfl ⟨_,rfl⟩ ?_;refine W.loop (α:=Nat×WD×Int) (fun x=>[(4,.v (.int .i64 (x.1:Nat))),(3,.p 1 0),(2,.p 0 0),(0,.v (.pointer (some ⟨c.R,0,none⟩)))]) (fun x=>[⟨27,zCells⟩,⟨27,x.2.1.cells⟩])
  (fun x h'=>x.1≤5∧DrawnW x.2.1.pure∧p≤x.2.2∧x.2.2≤p+1200+1201*(x.1:Int)∧Own h' (c.atoms x.2.2++(wAtoms x.2.1++l))) (fun x=>5-x.1) ?_ (0,D,q) h1 ⟨Nat.zero_le _,hd,hq1,by dsimp only;omega,ho1⟩
 rintro⟨i,E,q1⟩ h2 ⟨hi,hE,hb1,hb2,ho2⟩ ih;dsimp only at hi hE hb1 hb2 ho2 ⊢;have hf:=hE.facts;have hl:=pure_len E;refine vc_ok ⟨tbF_ok,_,Tryz.func45,Tryz.results45,Tryz.ntmps45⟩ 400 _ _ _ _ ?_;conv=>whnf
 refine⟨fun c0=>?_,fun c0=>?_⟩<;>conv=>whnf
 ·have hlt:i<5:=by simp at c0;omega
  refine(pick_con c hc q1 8 (by omega) (by omega) (by omega) (by omega) h2 _ ho2).mono ?_;rintro r h3 ⟨y,rfl,hy0,hy1,ho3⟩;conv=>whnf
  refine⟨fun c1=>?_,fun c1=>?_⟩<;>conv=>whnf
  ·refine W.cut [(6,.v (.int .i64 (0:Nat))),(5,.v (.int .i64 (0:Nat))),(4,.v (.int .i64 (i:Nat))),(3,.p 1 0),(2,.p 0 0),(0,.v (.pointer (some ⟨c.R,0,none⟩)))] [⟨27,zCells⟩,⟨27,E.cells⟩] [] ⟨rfl,rfl,rfl,rfl,rfl,rfl,trivial⟩ rfl rfl ⟨_,rfl⟩ ?_;refine W.loop (α:=Nat×Nat) (fun x=>[(6,.v (.int .i64 (x.1:Nat))),(5,.v (.int .i64 (x.2:Nat))),(4,.v (.int .i64 (i:Nat))),(3,.p 1 0),(2,.p 0 0),(0,.v (.pointer (some ⟨c.R,0,none⟩)))]) (fun _=>[⟨27,zCells⟩,⟨27,E.cells⟩])
    (fun x h'=>x.1≤E.runs.length∧x.2≤2000*x.1∧Own h' (c.atoms (q1+1)++(wAtoms E++l))) (fun x=>E.runs.length-x.1) ?_ (0,0) h3 ⟨Nat.zero_le _,Nat.zero_le _,ho3⟩
   rintro⟨k,n⟩ h4 ⟨hk,hn,ho4⟩ ih2;dsimp only at hk hn ho4 ⊢;refine vc_ok ⟨tbF_ok,_,Tryz.func45,Tryz.results45,Tryz.ntmps45⟩ 400 _ _ _ _ ?_;conv=>whnf
   refine⟨fun c2=>?_,fun c2=>?_⟩<;>conv=>whnf
   ·have hlt2:k<E.runs.length:=by simp at c2;omega
    have hwE:RowOk h4 (rowR E.rv E.runs):=ho4.rowOk (by simp [wAtoms]);obtain⟨gr,hra⟩:=row_some hwE (by omega);have hsm:=hE.sm.each E.runs[k].1 (pure_mem hlt2);refine W.draw [(0,true),(1,true),(2,true),(3,true),(4,true),(5,true),(6,true),(7,true),(8,true),(9,true),(10,true),(11,true),(12,true),(13,true),(14,true),(15,true),(16,true),(17,true)] [1] (some h4) 99 (by kernel_rfl) rfl (by kernel_rfl) mixed rfl (fun g e=>by cases e;exact Hp.le_refl _) ?_;refine vc_ok ⟨tbF_ok,_,Tryz.func45,Tryz.results45,Tryz.ntmps45⟩ 400 _ _ _ _ ?_;conv=>whnf
    refine Rd.index slRun.u slRun.size rfl (by exact rv_same hra) rfl k rfl hlt2 ?_;conv=>whnf
    refine Rd.loadRunCell (D:=E) rfl ⟨rfl,rfl⟩ rfl hwE (rv_same hra) hlt2 7 (by omega) rfl (.slice E.runs[k].2.a2 E.runs[k].1.links.length E.runs[k].2.k2) rfl ?_;conv=>whnf
    refine Rd.index slRun.u slRun.size rfl (by exact rv_same hra) rfl k rfl hlt2 ?_;conv=>whnf
    refine Rd.loadRunCell (D:=E) rfl ⟨rfl,rfl⟩ rfl hwE (rv_same hra) hlt2 8 (by omega) rfl (.slice E.runs[k].2.a3 E.runs[k].1.wat.length E.runs[k].2.k3) rfl ?_;conv=>whnf
    have s2:=hsm.s2;have s3:=hsm.s3;have e1:IntKind.i64.wrap ((n:Int)+(E.runs[k].1.links.length:Int))=((n+E.runs[k].1.links.length:Nat):Int):=by rw [wrapN _ (by omega) (by omega)];omega
    have e2:IntKind.i64.wrap (((n+E.runs[k].1.links.length:Nat):Int)+(E.runs[k].1.wat.length:Int))=((n+E.runs[k].1.links.length+E.runs[k].1.wat.length:Nat):Int):=by rw [wrapN _ (by omega) (by omega)];omega
    have e3:IntKind.i64.wrap ((k:Int)+1)=((k+1:Nat):Int):=by rw [wrapN _ (by omega) (by omega)];omega
    rw [e1,e2,e3];refine W.back (ih2 (k+1,n+E.runs[k].1.links.length+E.runs[k].1.wat.length) h4 ⟨hlt2,by dsimp only;omega,ho4⟩ (by dsimp only;omega)) [] (by exact⟨rfl,rfl,rfl,rfl,rfl,rfl,trivial⟩) rfl rfl
   ·refine⟨fun c3=>?_,fun c3=>?_⟩<;>conv=>whnf
    ·exact⟨E,q1+1,rfl,hE,by omega,by omega,ho4⟩
    ·refine(l72World_con c hc (q1+1) (by omega) (by omega) h4 _ ho4).mono ?_;rintro r h5 ⟨F,q2,rfl,hF,hb3,hb4,ho5⟩;conv=>whnf
     have e3:IntKind.i64.wrap ((i:Int)+1)=((i+1:Nat):Int):=by rw [wrapN _ (by omega) (by omega)];omega
     rw [e3];have ho6:Own h5 (c.atoms q2++(wAtoms F++l)):=by
      have:Own h5 (wAtoms E++(c.atoms q2++(wAtoms F++l))):=ho5.perm (perm_of fun x=>by simp only [List.count_append];omega);exact this.dropL
     refine W.back (ih (i+1,F,q2) h5 ⟨hlt,hF,by dsimp only;omega,by dsimp only;omega,ho6⟩ (by dsimp only;omega)) [] (by exact⟨rfl,rfl,rfl,rfl,trivial⟩) rfl rfl
  ·exact⟨E,q1+1,rfl,hE,by omega,by omega,ho3⟩
 ·exact⟨E,q1,rfl,hE,hb1,by omega,ho2⟩
theorem drawFallEnd_con (a:Option Addr) (len cap:Nat) (cb:Option (Nat×Obj)) (hc:CodeIn a len cap cb) (h:Hp) (l:List Atom) (ho:Own h (cbAtoms cb++l)) :
  Con Tryz.prog 18 #[.slice a len cap] h fun r h'=>∃(D:WD) (id:Int) (v:Int×Int),r=.tuple #[D.val,.int .i64 id,.agg #[.int .i64 v.1,.int .i64 v.2]]∧DrawnW D.pure∧1≤id∧id≤100∧v.1=2∧0≤v.2∧v.2≤100∧Own h' (cbAtoms cb++(wAtoms D++l)):=by
 refine Con.of_W (tb:=tbE) (args:=[.slice a len cap]) Tryz.func18 rfl Tryz.results18 Tryz.ntmps18 (by simp) (Tryz.call18 _) (tm:=[(0,.v (.slice a len cap))]) rfl ?_;refine vc_ok ⟨tbE_ok,_,Tryz.func18,Tryz.results18,Tryz.ntmps18⟩ 400 _ _ _ _ ?_;conv=>whnf
 refine(open_con a len cap cb hc h l ho).mono ?_;rintro r h1 ⟨c,hok,hcb,rfl,ho1⟩;conv=>whnf
 refine(l72Linked_con c hok 0 (by omega) (by omega) h1 l ho1).mono ?_;rintro r h2 ⟨D,q,rfl,hd,hq1,hq2,ho2⟩;conv=>whnf
 have hf:=hd.facts;have hl:=pure_len D;have hl1:1≤D.runs.length:=by omega
 have hl6:D.runs.length≤6:=by omega
 refine W.cut [(6,.p 2 0),(4,.p 1 0),(3,.v (.int .i64 0)),(2,.p 0 0),(5,.v (.pointer (some ⟨c.R,0,none⟩)))] _ [] ⟨rfl,rfl,rfl,rfl,rfl,trivial⟩ (List.append_nil _).symm rfl ⟨_,rfl⟩ ?_;refine W.draw [(0,true),(1,true),(2,true),(3,true),(4,true),(7,true),(12,true),(14,true),(5,false),(6,true),(8,false),(9,true),(10,true),(11,true),(13,false),(15,false),(16,true),(17,true),(18,true),(19,true),(20,false),(21,true),(22,false)] [2] none 99 (by kernel_rfl) rfl (by kernel_rfl) mixed rfl (fun g e=>by cases e) ?_;refine vc_ok ⟨tbE_ok,_,Tryz.func18,Tryz.results18,Tryz.ntmps18⟩ 400 _ _ _ _ ?_;conv=>whnf
 refine(pick_con c hok q D.runs.length (by omega) (by omega) (by omega) (by omega) h2 _ ho2).mono ?_;rintro r h3 ⟨y,rfl,hy0,hy1,ho3⟩;conv=>whnf
 refine(pick_con c hok (q+1) 24 (by omega) (by omega) (by omega) (by omega) h3 _ ho3).mono ?_;rintro r h4 ⟨z,rfl,hz0,hz1,ho4⟩;conv=>whnf
 refine Rd.quo (b:=23) rfl rfl rfl (by decide) ?_;have ht:z.tdiv 23=z / 23:=Int.tdiv_eq_ediv_of_nonneg (by omega);have hq:IntKind.i64.wrap (z / 23)=z / 23:=wrapN _ (by omega) (by omega);rw [ht,hq];conv=>whnf
 refine(pick_con c hok (q+1+1) 3 (by omega) (by omega) (by omega) (by omega) h4 _ ho4).mono ?_;rintro r h5 ⟨u,rfl,hu0,hu1,ho5⟩;conv=>whnf
 refine(pick_con c hok (q+1+1+1) 24 (by omega) (by omega) (by omega) (by omega) h5 _ ho5).mono ?_;rintro r h6 ⟨t,rfl,ht0,ht1,ho6⟩;conv=>whnf
 refine Rd.quo (b:=23) rfl rfl rfl (by decide) ?_;have ht2:t.tdiv 23=t / 23:=Int.tdiv_eq_ediv_of_nonneg (by omega);have hq2:IntKind.i64.wrap (t / 23)=t / 23:=wrapN _ (by omega) (by omega);rw [ht2,hq2];conv=>whnf
 have e1:IntKind.i64.wrap (1+y)=1+y:=wrapN _ (by omega) (by omega);have e2:IntKind.i64.wrap (z / 23*6)=z / 23*6:=wrapN _ (by omega) (by omega);have e3:IntKind.i64.wrap (1+y+z / 23*6)=1+y+z / 23*6:=wrapN _ (by omega) (by omega);have e4:IntKind.i64.wrap (t / 23*10)=t / 23*10:=wrapN _ (by omega) (by omega);have e5:IntKind.i64.wrap (u+t / 23*10)=u+t / 23*10:=wrapN _ (by omega) (by omega);refine⟨D,1+y+z / 23*6,(2,u+t / 23*10),?_,hd,by omega,by omega,rfl,by dsimp only;omega,by dsimp only;omega,c_cb hcb ho6⟩;rw [e1,e2,e3,e4,e5];rfl
theorem drawFallWith_con (a:Option Addr) (len cap:Nat) (cb:Option (Nat×Obj)) (hc:CodeIn a len cap cb) (h:Hp) (l:List Atom) (ho:Own h (cbAtoms cb++l)) :
  Con Tryz.prog 32 #[.slice a len cap] h fun r h'=>∃(D:WD) (id:Int),r=.tuple #[D.val,.int .i64 id]∧DrawnW D.pure∧1≤id∧id≤100∧Own h' (cbAtoms cb++(wAtoms D++l)):=by
 refine Con.of_W (tb:=tbE) (args:=[.slice a len cap]) Tryz.func32 rfl Tryz.results32 Tryz.ntmps32 (by simp) (Tryz.call32 _) (tm:=[(0,.v (.slice a len cap))]) rfl ?_;refine vc_ok ⟨tbE_ok,_,Tryz.func32,Tryz.results32,Tryz.ntmps32⟩ 400 _ _ _ _ ?_;conv=>whnf
 refine(open_con a len cap cb hc h l ho).mono ?_;rintro r h1 ⟨c,hok,hcb,rfl,ho1⟩;conv=>whnf
 refine(l72Linked_con c hok 0 (by omega) (by omega) h1 l ho1).mono ?_;rintro r h2 ⟨D,q,rfl,hd,hq1,hq2,ho2⟩;conv=>whnf
 have hf:=hd.facts;have hl:=pure_len D;have hl1:1≤D.runs.length:=by omega
 have hl6:D.runs.length≤6:=by omega
 refine W.cut [(5,.p 1 0),(3,.v (.int .i64 0)),(2,.p 0 0),(4,.v (.pointer (some ⟨c.R,0,none⟩)))] _ [] ⟨rfl,rfl,rfl,rfl,trivial⟩ (List.append_nil _).symm rfl ⟨_,rfl⟩ ?_;refine W.draw [(0,true),(1,true),(2,true),(3,true),(4,true),(7,true),(5,false),(6,true),(8,false),(9,true),(10,true),(11,true),(12,false),(13,true)] [1] none 99 (by kernel_rfl) rfl (by kernel_rfl) mixed rfl (fun g e=>by cases e) ?_;refine vc_ok ⟨tbE_ok,_,Tryz.func32,Tryz.results32,Tryz.ntmps32⟩ 400 _ _ _ _ ?_;conv=>whnf
 refine(pick_con c hok q D.runs.length (by omega) (by omega) (by omega) (by omega) h2 _ ho2).mono ?_;rintro r h3 ⟨y,rfl,hy0,hy1,ho3⟩;conv=>whnf
 refine(pick_con c hok (q+1) 24 (by omega) (by omega) (by omega) (by omega) h3 _ ho3).mono ?_;rintro r h4 ⟨z,rfl,hz0,hz1,ho4⟩;conv=>whnf
 refine Rd.quo (b:=23) rfl rfl rfl (by decide) ?_;have ht:z.tdiv 23=z / 23:=Int.tdiv_eq_ediv_of_nonneg (by omega);have hq:IntKind.i64.wrap (z / 23)=z / 23:=wrapN _ (by omega) (by omega);rw [ht,hq];conv=>whnf
 have e1:IntKind.i64.wrap (1+y)=1+y:=wrapN _ (by omega) (by omega);have e2:IntKind.i64.wrap (z / 23*6)=z / 23*6:=wrapN _ (by omega) (by omega);have e3:IntKind.i64.wrap (1+y+z / 23*6)=1+y+z / 23*6:=wrapN _ (by omega) (by omega);refine⟨D,1+y+z / 23*6,?_,hd,by omega,by omega,c_cb hcb ho4⟩;rw [e1,e2,e3];rfl
def trapAt (w:PW) (k:Int):Bool:=match w.runs[(k-1).toNat]? with
 | some d=>d.trap
 | none=>false
end Go.Proofs.YtgmkmeodimmdoaaGreatDoor
