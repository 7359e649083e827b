import Derived.Test.YtgmkmeodimmdoaaGreatDoorBQk
set_option maxHeartbeats 4000000
set_option maxRecDepth 20000
namespace Go.Proofs.YtgmkmeodimmdoaaGreatDoor.Eld
open Go.ChangeShapes Go.WideShapes Go.ChangeAt Go.RowKit Go.Joins
def Seg (w:World):Nat→List (Int×Int)→Nat→Prop
 |b,[],l=>b=l
 |b,v::M,l=>∃c,b<c∧w.cell? ⟨b,2,none⟩=some (.pointer (some ⟨c,0,none⟩))∧ValAt w c 0 v∧Seg w c M l
theorem Seg.le {w:World}:∀{M:List (Int×Int)} {b l:Nat},Seg w b M l→b≤l
 |[],_,_,h=>Nat.le_of_eq h
 |_::_,_,_,⟨_,hc,_,_,h⟩=>Nat.le_trans (Nat.le_of_lt hc) h.le
theorem Seg.snoc {w w':World} {c:Nat} {v:Int×Int}:∀{M:List (Int×Int)} {b l:Nat},Seg w b M l→l<c→(∀x y:Nat,x≤l→(x<l∨y≠2)→w'.cell? ⟨x,y,none⟩=w.cell? ⟨x,y,none⟩)→w'.cell? ⟨l,2,none⟩=some (.pointer (some ⟨c,0,none⟩))→ValAt w' c 0 v→Seg w' b (M++[v]) c
 |[],b,l,h,hc,_,h2,hv=>by
  have h':b=l:=h;subst h';exact⟨c,hc,h2,hv,rfl⟩
 |u::M,b,l,⟨d,hd,h1,hu,h⟩,hc,hk,h2,hv=>by
  have hdl:=h.le;exact⟨d,hd,(hk b 2 (by omega) (.inl (by omega))).trans h1,⟨(hk d 0 hdl (.inr (by omega))).trans hu.1,(hk d 1 hdl (.inr (by omega))).trans hu.2⟩,h.snoc hc hk h2 hv⟩
theorem frozen_past (w:World) (b o:Nat) (h:w.heap.size≤b):w.frozen? ⟨b,o,none⟩=false:=by
 unfold World.frozen?;rw [show w.heap[b]?=none from Array.getElem?_eq_none h]
theorem set_other (w:World) (l x y:Nat) (v:Value) (h:x<l∨y≠2):(w.setCell ⟨l,2,none⟩ v).cell? ⟨x,y,none⟩=w.cell? ⟨x,y,none⟩:=by
 by_cases hx:l=x
 ·subst hx;have hy:y≠2:=by omega
  exact World.cell?_setCell_other w _ _ v (by intro e;injection e with _ e2;omega)
 ·exact World.cell?_setCell_far w _ _ v hx
theorem chainOf_any (S:Nat) (M:List (Int×Int)) (b o cap:Nat) (w:World) (hS:S≤w.heap.size) (hl:M.length≤1048576) (hb:b<S) (hc:∀i (h:i<M.length),ValAt w b (o+i*2) M[i]) :
  Calls Tryz.prog 171 #[.slice (some ⟨b,o,none⟩) M.length cap] w fun e w'=>e=.returned (.pointer (some ⟨w.heap.size,0,none⟩))∧(∃l,Seg w' w.heap.size M l∧l<w'.heap.size∧w'.cell? ⟨l,2,none⟩=some (.pointer none))∧Below w.heap.size w w':=by
 replace hc:Hid (∀i (h:i<M.length),ValAt w b (o+i*2) M[i]):=hc
 go_enter Tryz.func171,Tryz.ntmps171
 go_wp2_with fail
 go_loopw [4,12] (fun l i wr=>∃k lb:Nat,k≤M.length∧i=.int .i64 k∧l=.pointer (some ⟨lb,0,none⟩)∧Seg wr w.heap.size (M.take k) lb∧lb<wr.heap.size∧wr.cell? ⟨lb,2,none⟩=some (.pointer none)∧wr.frozen? ⟨lb,2,none⟩=false∧Below w.heap.size w wr) (fun _ i _=>M.length-(intOf i).toNat)
 case atStart=>exact⟨0,w.heap.size,Nat.zero_le _,rfl,rfl,rfl,by simp,by simp [go_sem],by rw [frozen?_alloc_cells];exact frozen_past _ _ _ (Nat.le_refl _),(Below.refl _ _).alloc (Nat.le_refl _) _⟩
 case round =>
  obtain⟨k,lb,hk,rfl,rfl,hG,hlb,hn,hfz,hBr⟩:=hrel;have hzr:=hBr.size;by_cases hlt:k<M.length
  ·have g1:(k:Int)<(M.length:Int):=by omega
   obtain⟨v0,v1⟩:=hc.out k hlt;have d0:wr.cell? ⟨b,o+k*2,none⟩=some (.int .i64 M[k].1):=(hBr.cell (p:=⟨b,o+k*2,none⟩) (by show b<w.heap.size;omega)).trans v0;have d1:wr.cell? ⟨b,o+k*2+1,none⟩=some (.int .i64 M[k].2):=(hBr.cell (p:=⟨b,o+k*2+1,none⟩) (by show b<w.heap.size;omega)).trans v1;have hwl:=hG.le;have htk:M.take (k+1)=M.take k++[(M[k].1,M[k].2)]:=by rw [List.take_succ_eq_append_getElem hlt]
   replace htk:Hid (M.take (k+1)=M.take k++[(M[k].1,M[k].2)]):=htk;clear v0 v1;generalize M[k].1=x at *;generalize M[k].2=y at *;replace hG:Hid (Seg wr w.heap.size (M.take k) lb):=hG
   go_wp2_with fail
   go_roundw
   case rel =>
    have hX:Below wr.heap.size (wr.setCell ⟨lb,2,none⟩ (.pointer (some ⟨wr.heap.size+1,0,none⟩))) (((wr.setCell ⟨lb,2,none⟩ (.pointer (some ⟨wr.heap.size+1,0,none⟩))).alloc (.cells #[.int .i64 x,.int .i64 y] 32)).alloc (.cells #[.int .i64 x,.int .i64 y,.pointer none] 204)):=(((Below.refl _ _).alloc (by simp) _).alloc (by simp) _);refine⟨k+1,wr.heap.size+1,by omega,by go_num,rfl,?_,by simp,by simp [go_sem],by rw [frozen?_alloc_cells,frozen?_alloc_cells];exact frozen_past _ _ _ (by simp),((hBr.setCell (p:=⟨lb,2,none⟩) hwl _).alloc (by simp;omega) _).alloc (by simp;omega) _⟩;rw [htk.out];refine hG.out.snoc (by omega) (fun a e ha hae=>?_) ?_ ⟨by simp [go_sem],by simp [go_sem]⟩
    ·exact(hX.cell (p:=⟨a,e,none⟩) (by show a<wr.heap.size;omega)).trans (set_other wr lb a e _ hae)
    ·refine(hX.cell (p:=⟨lb,2,none⟩) hlb).trans ?_;exact World.cell?_setCell_same _ _ _ hn
   case measure=>simp [intOf];omega
  ·have e:k=M.length:=by omega
   subst e;rw [List.take_length] at hG;replace hG:Hid (Seg wr w.heap.size M lb):=hG
   go_wp2_with fail
   go_ret
   exact⟨rfl,⟨lb,hG.out,hlb,hn⟩,hBr⟩
namespace AH
def fitsB (k n kind:Int):Bool:=okB k n&&(kind==0||kind==k)
theorem implFits_any (k n kind:Int) (w:World) :
  Calls Tryz.prog 183 #[.agg #[.int .i64 k,.int .i64 n],.int .i64 kind] w fun e w'=>e=.returned (.bool (fitsB k n kind))∧Below w.heap.size w w':=by
 cases hok:okB k n with
 |false =>
  have hfin:Hid (fitsB k n kind=false):=by show fitsB k n kind=false;simp [fitsB,hok]
  go_enter Tryz.func183,Tryz.ntmps183
  go_wp2_with (go_at_call 46;refine(implOk_any _ _ _).mono ?_;rintro e w1 ⟨rfl,hb⟩)
  go_ret
  exact⟨by rw [hfin.out];rfl,((Below.refl _ _).alloc (Nat.le_refl _) _).trans (hb.mono (by simp))⟩
 |true =>
  by_cases hz:kind=0
  ·have hfin:Hid (fitsB k n kind=true):=by show fitsB k n kind=true;simp [fitsB,hok,hz]
   subst hz
   go_enter Tryz.func183,Tryz.ntmps183
   go_wp2_with (go_at_call 46;refine(implOk_any _ _ _).mono ?_;rintro e w1 ⟨rfl,hb⟩)
   go_ret
   exact⟨by rw [hfin.out];rfl,((Below.refl _ _).alloc (Nat.le_refl _) _).trans (hb.mono (by simp))⟩
  ·have hz':(kind==0)=false:=by simp [hz]
   have hfin:Hid (fitsB k n kind=(kind==k)):=by show fitsB k n kind=(kind==k);simp [fitsB,hok,hz']
   go_enter Tryz.func183,Tryz.ntmps183
   go_wp2_with fail
   refine(implOk_any _ _ _).mono ?_;rintro e w1 ⟨rfl,hb⟩;obtain⟨hc,hf⟩:=bcell hb
   go_wp2_with fail
   go_ret
   exact⟨by rw [hfin.out];rfl,((Below.refl _ _).alloc (Nat.le_refl _) _).trans (hb.mono (by simp))⟩
def Aheads (w:World) (h:Nat) (M:List (Int×Int)) (l:Nat) (kind:Int) (e:Ending):Prop :=
 (∃k ab,∃hk:k<M.length,e=.returned (.tuple #[.pointer (some ⟨ab,0,none⟩),.int .i64 k])∧Seg w h (M.take k) ab∧Seg w ab (M.drop k) l∧fitsB M[k].1 M[k].2 kind=true∧∀j (h:j<M.length),j<k→fitsB M[j].1 M[j].2 kind=false)
 ∨ (e=.returned (.tuple #[.pointer none,.int .i64 0])∧∀j (h:j<M.length),fitsB M[j].1 M[j].2 kind=false)
theorem aheadOf_any (h l:Nat) (M:List (Int×Int)) (kind:Int) (w:World) (hl:M.length≤1048576) (hG:Seg w h M l) (hlw:l<w.heap.size) (hn:w.cell? ⟨l,2,none⟩=some (.pointer none)) :
  Calls Tryz.prog 172 #[.pointer (some ⟨h,0,none⟩),.int .i64 kind] w fun e w'=>Aheads w h M l kind e∧Below w.heap.size w w':=by
 replace hG:Hid (Seg w h M l):=hG
 go_enter Tryz.func172,Tryz.ntmps172
 go_wp2_with fail
 go_loopw [6,7] (fun i a wr=>∃k ab:Nat,k≤M.length∧i=.int .i64 k∧a=.pointer (some ⟨ab,0,none⟩)∧Seg w h (M.take k) ab∧Seg w ab (M.drop k) l∧(∀j (h:j<M.length),j<k→fitsB M[j].1 M[j].2 kind=false)∧Below w.heap.size w wr) (fun i _ _=>M.length-(intOf i).toNat)
 case atStart=>exact⟨0,h,Nat.zero_le _,rfl,rfl,rfl,hG.out,fun j _ hj=>by omega,Below.refl _ _⟩
 case round =>
  obtain⟨k,ab,hk,rfl,rfl,hT,hD,hU,hBr⟩:=hrel;have hzr:=hBr.size;have hal:=hD.le;replace hU:Hid (∀j (h:j<M.length),j<k→fitsB M[j].1 M[j].2 kind=false):=hU;replace hT:Hid (Seg w h (M.take k) ab):=hT;by_cases hlt:k<M.length
  ·have hD0:Hid (Seg w ab (M.drop k) l):=hD;rw [List.drop_eq_getElem_cons hlt] at hD;obtain⟨c,hac,hp,hv,hD⟩:=hD;have hcl:=hD.le;replace hD:Hid (Seg w c (M.drop (k+1)) l):=hD;have p0:wr.cell? ⟨ab,2,none⟩=some (.pointer (some ⟨c,0,none⟩)):=(hBr.cell (p:=⟨ab,2,none⟩) (by show ab<w.heap.size;omega)).trans hp;have d0:wr.cell? ⟨c,0,none⟩=some (.int .i64 M[k].1):=(hBr.cell (p:=⟨c,0,none⟩) (by show c<w.heap.size;omega)).trans hv.1;have d1:wr.cell? ⟨c,1,none⟩=some (.int .i64 M[k].2):=(hBr.cell (p:=⟨c,1,none⟩) (by show c<w.heap.size;omega)).trans hv.2;have hTs:Hid (Seg w h (M.take (k+1)) c):=by
    show Seg w h (M.take (k+1)) c;rw [List.take_succ_eq_append_getElem hlt];exact hT.out.snoc hac (fun _ _ _ _=>rfl) hp hv
   have hyes:Hid (fitsB M[k].1 M[k].2 kind=true→∃hk:k<M.length,fitsB M[k].1 M[k].2 kind=true):=fun h=>⟨hlt,h⟩
   have hno:Hid (fitsB M[k].1 M[k].2 kind=false→∀j (h:j<M.length),j<k+1→fitsB M[j].1 M[j].2 kind=false):=fun h j hjl hj=>by
    by_cases e:j<k
    ·exact hU.out j hjl e
    ·have:j=k:=by omega
     subst this;exact h
   clear hp hv;generalize hx:M[k].1=x at *;generalize hy:M[k].2=y at *;replace hx:Hid (M[k].1=x):=hx;replace hy:Hid (M[k].2=y):=hy
   go_wp2_with fail
   refine(implFits_any x y kind _).mono ?_;rintro e u1 ⟨rfl,hb1⟩;have hB1:Below w.heap.size w u1:=hBr.trans (hb1.mono (by omega));have p1:u1.cell? ⟨ab,2,none⟩=some (.pointer (some ⟨c,0,none⟩)):=(hb1.cell (p:=⟨ab,2,none⟩) (by show ab<wr.heap.size;omega)).trans p0;clear d0 d1 p0 hb1
   cases hob:fitsB x y kind with
   |true =>
    have hfin:Hid (Aheads w h M l kind (.returned (.tuple #[.pointer (some ⟨ab,0,none⟩),.int .i64 k]))):=.inl ⟨k,ab,hlt,rfl,hT.out,hD0.out,by rw [hx.out,hy.out];exact hob,hU.out⟩
    go_wp2_with fail
    exact bodyPost_ret (v:=.tuple #[.pointer (some ⟨ab,0,none⟩),.int .i64 k]) (by simp [results,Tryz.results172,go_sem]) rfl ⟨hfin.out,hB1⟩
   |false =>
    have hnq:=(show Hid _ from hno.out hob)
    go_wp2_with fail
    go_roundw
    case rel=>exact⟨k+1,c,by omega,by go_num,rfl,hTs.out,hD.out,hnq.out,hB1⟩
    case measure=>simp [intOf];omega
  ·have e:k=M.length:=by omega
   subst e;rw [List.drop_length] at hD;have hD':ab=l:=hD;subst hD';have p0:wr.cell? ⟨ab,2,none⟩=some (.pointer none):=(hBr.cell (p:=⟨ab,2,none⟩) hlw).trans hn;have hfin:Hid (Aheads w h M ab kind (.returned (.tuple #[.pointer none,.int .i64 0]))):=.inr ⟨rfl,fun j hj=>hU.out j hj hj⟩
   go_wp2_with fail
   exact bodyPost_ret (v:=.tuple #[.pointer none,.int .i64 0]) (by simp [results,Tryz.results172,go_sem]) rfl ⟨hfin.out,hBr⟩
end AH
open Go.ChangeShapes Go.WideShapes Go.ChangeAt Go.RowKit Go.Joins
open AH
theorem chainOf_all (S:Nat) (M:List (Int×Int)) (v:Value) (w:World) (hS:S≤w.heap.size) (hl:M.length≤1048576) (hM:Vals S w v M) :
  Calls Tryz.prog 171 #[v] w fun e w'=>e=.returned (.pointer (some ⟨w.heap.size,0,none⟩))∧(∃l,Seg w' w.heap.size M l∧l<w'.heap.size∧w'.cell? ⟨l,2,none⟩=some (.pointer none))∧Below w.heap.size w w':=by
 obtain⟨ao,cap,rfl,hc⟩:=hM;rcases hc with rfl|⟨b,o,rfl,hb,hc⟩
 ·go_enter Tryz.func171,Tryz.ntmps171
  go_wp2_with fail
  refine wp_loop_rounds 1 ?_;rw [rounds_succ]
  go_wp2_with fail
  go_ret
  exact⟨rfl,⟨w.heap.size,rfl,by simp,by simp [go_sem]⟩,(Below.refl _ _).alloc (Nat.le_refl _) _⟩
 ·exact chainOf_any S M b o cap w hS hl hb hc
theorem fits_in {k n kind:Int} (h:fitsB k n kind=true):fitQ kind k=true∧(0≤kind∧kind≤3):=by
 unfold fitsB at h;rw [Bool.and_eq_true] at h;obtain⟨h1,h2⟩:=h;have hk:0≤k∧k≤3:=by
  by_cases h0:k=0
  ·omega
  by_cases h1':k=1
  ·omega
  by_cases h2':k=2
  ·omega
  by_cases h3:k=3
  ·omega
  rw [okB_else k n h0 h1' h2' h3] at h1;cases h1
 unfold fitQ;simp only [Bool.or_eq_true,beq_iff_eq] at h2 ⊢
 constructor<;>omega
theorem fits_out {k n kind:Int} (hok:okB k n=true) (h:fitsB k n kind=false):fitQ kind k=false:=by
 unfold fitsB at h;rw [hok,Bool.true_and] at h;unfold fitQ;simp only [Bool.or_eq_false_iff,beq_eq_false_iff_ne] at h ⊢;exact⟨h.1,fun e=>h.2 e.symm⟩
theorem run_parts {d:RunD} (h:runB d=true):(∀i (h:i<d.mail.length),okB d.mail[i].1 d.mail[i].2=true)∧endB d=true:=by
 unfold runB mailB at h;simp only [Bool.and_eq_true] at h;obtain⟨_,_,_,⟨_,h4⟩,_,_,_,h8⟩:=h;refine⟨fun i hi=>?_,h8⟩;unfold allOk at h4;rw [List.all_eq_true] at h4;exact h4 _ (List.getElem_mem hi)
theorem first_none {d:RunD} {kind:Int} (h:runB d=true) (hn:∀j (h:j<d.mail.length),fitsB d.mail[j].1 d.mail[j].2 kind=false):sFirst d kind=(0,false):=by
 obtain⟨ho,_⟩:=run_parts h;unfold sFirst;rw [firstP_none (fun j hj=>fits_out (ho j hj) (hn j hj))]
 split<;>rfl
theorem first_some {d:RunD} {kind:Int} {k:Nat} (h:runB d=true) (hk:k<d.mail.length) (hy:fitsB d.mail[k].1 d.mail[k].2 kind=true) (hn:∀j (h:j<d.mail.length),j<k→fitsB d.mail[j].1 d.mail[j].2 kind=false):sFirst d kind=((k:Int),true):=by
 obtain⟨ho,he⟩:=run_parts h;obtain⟨hq,hin⟩:=fits_in hy;have hs:specRB d=true:=by
  unfold specRB;rw [h,Bool.true_and];unfold endB at he;by_cases h3:d.st=3
  ·rw [if_pos h3,Bool.and_eq_true] at he;have:=he.1;simp at this;rw [this] at hk;simp at hk
  ·rw [if_neg h3] at he;simp only [Bool.and_eq_true,beq_iff_eq] at he;rw [he.1,he.2];rfl
 unfold sFirst;rw [if_pos ⟨hs,hin⟩,firstP_some hk (fun j hj hjk=>fits_out (ho j hj) (hn j hj hjk)) hq]
theorem implRunFirst_any (S:Nat) (d:RunD) (q:RunP) (kind:Int) (w:World) (hS:S≤w.heap.size) (hs:d.Short) (hk2:d.links.length≤q.k2) (hk3:d.wat.length≤q.k3) (hM:RunMem S w d q) :
  Calls Tryz.prog 141 #[d.val q,.int .i64 kind] w fun e w'=>e=.returned (.tuple #[.int .i64 (sFirst d kind).1,.bool (sFirst d kind).2])∧Below w.heap.size w w':=by
 have hB0:Below w.heap.size w (w.alloc (.cells (d.cells q) 34)):=(Below.refl _ _).alloc (Nat.le_refl _) _;have hA0:RunAt (w.alloc (.cells (d.cells q) 34)) w.heap.size d q:=runAt_new w d q 34;have hS0:S≤(w.alloc (.cells (d.cells q) 34)).heap.size:=by simp;omega
 have hz0:w.heap.size<(w.alloc (.cells (d.cells q) 34)).heap.size:=by simp
 have hM0:RunMem S (w.alloc (.cells (d.cells q) 34)) d q:=hM.below (hB0.mono hS);replace hs:Hid d.Short:=hs;replace hk2:Hid (d.links.length≤q.k2):=hk2;replace hk3:Hid (d.wat.length≤q.k3):=hk3;clear hM
 go_enter Tryz.func141,Tryz.ntmps141
 go_wp2_with fail
 generalize (w.alloc (.cells (d.cells q) 34))=w0 at *;refine(implRunOk_any S d q w0 hS0 hs.out hk2.out hk3.out hM0).mono ?_;rintro e w1 ⟨rfl,hb1⟩;have hz1:=hb1.size;have hA1:=hA0.below hz0 hb1;have hM1:=hM0.below (hb1.mono hS0);have hB1:Below w.heap.size w w1:=hB0.trans (hb1.mono (by omega));clear hb1 hA0 hM0
 cases h1:runB d with
 |false =>
  have hf:Hid (sFirst d kind=(0,false)):=if_neg (by unfold specRB;rw [h1];simp)
  go_wp2_with fail
  exact bodyPost_ret (v:=.tuple #[.int .i64 0,.bool false]) (by simp [results,Tryz.results141,go_sem]) rfl ⟨by rw [hf.out],hB1⟩
 |true =>
  replace h1:Hid (runB d=true):=h1;have c4:=hA1.c4
  go_wp2_with fail
  refine(chainOf_all S d.mail _ w1 (by omega) hs.out.s1 hM1.m1).mono ?_;rintro e w2 ⟨rfl,⟨l,hG,hlw,hn⟩,hb2⟩;have hB2:Below w.heap.size w w2:=hB1.trans (hb2.mono (by omega));have hz2:=hb2.size;clear c4 hb2
  go_wp2_with fail
  refine(aheadOf_any w1.heap.size l d.mail kind w2 hs.out.s1 hG hlw hn).mono ?_;rintro e w3 ⟨hAh,hb3⟩;have hB3:Below w.heap.size w w3:=hB2.trans (hb3.mono (by omega));clear hG hn hb3;rcases hAh with⟨k,ab,hk,rfl,_,_,hy,hu⟩|⟨rfl,hu⟩
  ·have hf:Hid (sFirst d kind=((k:Int),true)):=first_some h1.out hk hy hu;clear hk hy hu
   go_wp2_with fail
   exact bodyPost_ret (v:=.tuple #[.int .i64 k,.bool true]) (by simp [results,Tryz.results141,go_sem]) rfl ⟨by rw [hf.out],hB3⟩
  ·have hf:Hid (sFirst d kind=(0,false)):=first_none h1.out hu;clear hu
   go_wp2_with fail
   exact bodyPost_ret (v:=.tuple #[.int .i64 0,.bool false]) (by simp [results,Tryz.results141,go_sem]) rfl ⟨by rw [hf.out],hB3⟩
end Go.Proofs.YtgmkmeodimmdoaaGreatDoor.Eld
