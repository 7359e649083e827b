import Derived.Test.YtgmkmeodimmdoaaGreatDoorBQi
set_option maxHeartbeats 8000000
set_option maxRecDepth 20000
namespace Go.Proofs.YtgmkmeodimmdoaaGreatDoor.Eld
open Go.ChangeShapes Go.WideShapes Go.ChangeAt Go.RowKit Go.Joins
def idQ (own:Int) (L:List Int) (i:Nat):Bool:=isRunB (L.getD i 0)&&(!(L.getD i 0==own)&&!hasI (L.take i) (L.getD i 0))
def idsB (own:Int) (L:List Int):Bool:=(List.range L.length).all (idQ own L)
theorem idsB_no {own:Int} {L:List Int} {i:Nat} (hi:i<L.length) (h:idQ own L i=false):idsB own L=false:=by
 unfold idsB;rw [List.all_eq_false];exact⟨i,List.mem_range.2 hi,by rw [h];simp⟩
theorem idsB_yes {own:Int} {L:List Int} (h:∀i,i<L.length→idQ own L i=true):idsB own L=true:=by
 unfold idsB;rw [List.all_eq_true];exact fun i hi=>h i (List.mem_range.1 hi)
theorem Ints.pre {S:Nat} {w:World} {b o cap:Nat} {L:List Int} (hb:b<S) (h:∀i (h:i<L.length),w.cell? ⟨b,o+i,none⟩=some (.int .i64 L[i])) (k:Nat) (hk:k≤L.length):Ints S w (.slice (some ⟨b,o,none⟩) k cap) (L.take k) :=
 ⟨_,cap,by rw [List.length_take,Nat.min_eq_left hk],.inr ⟨b,o,rfl,hb,fun i hi=>by
  rw [List.length_take] at hi;rw [h i (by omega),List.getElem_take]⟩⟩
theorem Ints.drewN {S:Nat} {w:World} {v:Value} {L:List Int} (h:Ints S w v L) (q:Nat):Ints S (w.drewN q) v L:=h.below ⟨rfl,rfl,rfl,Nat.le_refl _,fun _ _=>rfl⟩
theorem l11Ids_any (S:Nat) (own:Int) (L:List Int) (ao:Option Addr) (cap:Nat) (w:World) (hS:S≤w.heap.size) (hl:L.length≤1048576) (hcap:L.length≤cap) (h:Ints S w (.slice ao L.length cap) L) :
  Calls Tryz.prog 41 #[.slice ao L.length cap,.int .i64 own] w fun e w'=>e=.returned (.bool (idsB own L))∧Below w.heap.size w w':=by
 obtain⟨ao',cap',hv,h⟩:=h
 injection hv with h1 _ h3
 subst h1;subst h3;rcases h with rfl|⟨b,o,rfl,hb,hc⟩
 ·go_enter Tryz.func41,Tryz.ntmps41
  go_wp2_with fail
  refine wp_loop_rounds 1 ?_;rw [rounds_succ]
  go_wp2_with fail
  go_ret
  exact⟨rfl,Below.refl _ _⟩
 replace hc:Hid (∀i (h:i<L.length),w.cell? ⟨b,o+i,none⟩=some (.int .i64 L[i])):=hc
 go_enter Tryz.func41,Tryz.ntmps41
 go_wp2_with fail
 go_loopw [5] (fun i wr=>∃k:Nat,k≤L.length∧i=.int .i64 k∧(∀j,j<k→idQ own L j=true)∧Below w.heap.size w wr) (fun i _=>L.length-(intOf i).toNat)
 case atStart=>exact⟨0,Nat.zero_le _,rfl,fun j hj=>by omega,Below.refl _ _⟩
 case round =>
  obtain⟨k,hk,rfl,hU,hBr⟩:=hrel;have hzr:=hBr.size;replace hU:Hid (∀j,j<k→idQ own L j=true):=hU;by_cases hlt:k<L.length
  ·have g1:(k:Int)<(L.length:Int):=by omega
   have g2:(k:Int)≤(cap:Int):=by omega
   have hcr:∀i (h:i<L.length),wr.cell? ⟨b,o+i,none⟩=some (.int .i64 L[i]):=fun i hi=>(hBr.cell (p:=⟨b,o+i,none⟩) (by show b<w.heap.size;omega)).trans (hc.out i hi)
   have c0:=hcr k hlt;have hI:Ints S wr (.slice (some ⟨b,o,none⟩) k cap) (L.take k):=Ints.pre hb hcr k (by omega);have htl:(L.take k).length≤1048576:=by rw [List.length_take];omega
   have hq:idQ own L k=(isRunB L[k]&&(!(L[k]==own)&&!hasI (L.take k) L[k])):=by
    unfold idQ;rw [show L.getD k 0=L[k] by simp [List.getD_eq_getElem?_getD,List.getElem?_eq_getElem hlt]]
   have hno:Hid (idQ own L k=false→idsB own L=false):=fun h=>idsB_no hlt h
   have hyes:Hid (idQ own L k=true→∀j,j<k+1→idQ own L j=true):=fun h j hj=>by
    by_cases e:j<k
    ·exact hU.out j e
    ·have:j=k:=by omega
     subst this;exact h
   clear hcr;generalize L[k]=x at *;generalize hxb:isRunB x=rb at *;generalize hhb:hasI (L.take k) x=hb2 at *;replace hq:Hid (idQ own L k=(rb&&(!(x==own)&&!hb2))):=hq;have hrb:(decide (1≤x)&&decide (x≤6))=rb:=hxb;replace hhb:Hid (hasI (L.take k) x=hb2):=hhb;have hin:Hid (∀W:World,Calls Tryz.prog 40 #[.int .i64 x,.int .i64 1,.int .i64 6] W fun e w'=>e=.returned (.bool rb)∧w'=W):=fun W=>by rw [←hrb];exact l6In_any x 1 6 W
   have ham:Hid (∀q,Calls Tryz.prog 65 #[.slice (some ⟨b,o,none⟩) k cap,.int .i64 x] (wr.drewN q) fun e w'=>e=.returned (.bool hb2)∧w'=wr.drewN q):=fun q=>by rw [←hhb.out];exact among_any S (L.take k) _ x _ htl (hI.drewN q)
   clear hxb hrb hhb
   cases rb with
   |false =>
    have hf:Hid (idsB own L=false):=hno.out (by rw [hq.out];rfl)
    go_wp2_with fail
    go_quiet ((go_at_call 40;exact Calls.quiet_of_same (hin.out _)))
    go_wp2_with fail
    go_ret
    exact⟨by rw [hf.out];rfl,hBr.trans ⟨rfl,rfl,rfl,Nat.le_refl _,fun _ _=>rfl⟩⟩
   |true =>
    by_cases ho:x=own
    ·have ho':(x==own)=true:=by simp [ho]
     have hf:Hid (idsB own L=false):=hno.out (by rw [hq.out,ho'];rfl);clear ho
     go_wp2_with fail
     go_quiet ((go_at_call 40;exact Calls.quiet_of_same (hin.out _)))
     go_wp2_with fail
     go_ret
     exact⟨by rw [hf.out];rfl,hBr.trans ⟨rfl,rfl,rfl,Nat.le_refl _,fun _ _=>rfl⟩⟩
    ·have ho':(x==own)=false:=by simp [ho]
     clear ho
     cases hb2 with
     |true =>
      have hf:Hid (idsB own L=false):=hno.out (by rw [hq.out,ho'];rfl)
      go_wp2_with fail
      go_quiet (first|(go_at_call 40;exact Calls.quiet_of_same (hin.out _))|(go_at_call 65;exact Calls.quiet_of_same (ham.out _)))
      go_wp2_with fail
      go_ret
      exact⟨by rw [hf.out];rfl,hBr.trans ⟨rfl,rfl,rfl,Nat.le_refl _,fun _ _=>rfl⟩⟩
     |false =>
      have hn:=hyes.out (by rw [hq.out,ho'];rfl);replace hn:Hid (∀j,j<k+1→idQ own L j=true):=hn
      go_wp2_with fail
      go_quiet (first|(go_at_call 40;exact Calls.quiet_of_same (hin.out _))|(go_at_call 65;exact Calls.quiet_of_same (ham.out _)))
      go_wp2_with fail
      go_roundw
      case rel=>exact⟨k+1,by omega,by go_num,hn.out,hBr.trans ⟨rfl,rfl,rfl,Nat.le_refl _,fun _ _=>rfl⟩⟩
      case measure=>simp [intOf];omega
  ·have e:k=L.length:=by omega
   subst e;have hy:Hid (idsB own L=true):=idsB_yes hU.out
   go_wp2_with fail
   go_ret
   exact⟨by rw [hy.out];rfl,hBr⟩
theorem areOthers_any (S:Nat) (d:RunD) (q:RunP) (L:List Int) (ao:Option Addr) (cap:Nat) (w:World) (hS:S≤w.heap.size) (hl:L.length≤1048576) (hcap:L.length≤cap) (h:Ints S w (.slice ao L.length cap) L) :
  Calls Tryz.prog 139 #[d.val q,.slice ao L.length cap] w fun e w'=>e=.returned (.bool (idsB d.id L))∧Below w.heap.size w w':=by
 obtain⟨ao',cap',hv,h⟩:=h
 injection hv with h1 _ h3
 subst h1;subst h3;rcases h with rfl|⟨b,o,rfl,hb,hc⟩
 ·go_enter Tryz.func139,Tryz.ntmps139
  go_wp2_with fail
  refine wp_loop_rounds 1 ?_;rw [rounds_succ]
  go_wp2_with fail
  go_ret
  exact⟨rfl,(Below.refl _ _).alloc (Nat.le_refl _) _⟩
 have hb0:Below w.heap.size w (w.alloc (.cells (d.cells q) 34)):=(Below.refl _ _).alloc (Nat.le_refl _) _;have c00:(w.alloc (.cells (d.cells q) 34)).cell? ⟨w.heap.size,0,none⟩=some (.int .i64 d.id):=(runAt_new w d q 34).c0;have hz0:w.heap.size<(w.alloc (.cells (d.cells q) 34)).heap.size:=by simp
 replace hc:Hid (∀i (h:i<L.length),w.cell? ⟨b,o+i,none⟩=some (.int .i64 L[i])):=hc
 go_enter Tryz.func139,Tryz.ntmps139
 go_wp2_with fail
 generalize (w.alloc (.cells (d.cells q) 34))=w0 at *;generalize hide:d.id=own at *;replace hide:Hid (d.id=own):=hide
 go_loopw [9] (fun i wr=>∃k:Nat,k≤L.length∧i=.int .i64 k∧(∀j,j<k→idQ own L j=true)∧Below w0.heap.size w0 wr) (fun i _=>L.length-(intOf i).toNat)
 case atStart=>exact⟨0,Nat.zero_le _,rfl,fun j hj=>by omega,Below.refl _ _⟩
 case round =>
  obtain⟨k,hk,rfl,hU,hBr⟩:=hrel;have hzr:=hBr.size;replace hU:Hid (∀j,j<k→idQ own L j=true):=hU;have hBw:Below w.heap.size w wr:=hb0.trans (hBr.mono (by omega));by_cases hlt:k<L.length
  ·have g1:(k:Int)<(L.length:Int):=by omega
   have g2:(k:Int)≤(cap:Int):=by omega
   have d0:wr.cell? ⟨w.heap.size,0,none⟩=some (.int .i64 own):=(hBr.cell (p:=⟨w.heap.size,0,none⟩) hz0).trans c00;have hcr:∀i (h:i<L.length),wr.cell? ⟨b,o+i,none⟩=some (.int .i64 L[i]):=fun i hi=>(hBw.cell (p:=⟨b,o+i,none⟩) (by show b<w.heap.size;omega)).trans (hc.out i hi)
   have c0:=hcr k hlt;have hI:Ints S wr (.slice (some ⟨b,o,none⟩) k cap) (L.take k):=Ints.pre hb hcr k (by omega);have htl:(L.take k).length≤1048576:=by rw [List.length_take];omega
   have hq:idQ own L k=(isRunB L[k]&&(!(L[k]==own)&&!hasI (L.take k) L[k])):=by
    unfold idQ;rw [show L.getD k 0=L[k] by simp [List.getD_eq_getElem?_getD,List.getElem?_eq_getElem hlt]]
   have hno:Hid (idQ own L k=false→idsB own L=false):=fun h=>idsB_no hlt h
   have hyes:Hid (idQ own L k=true→∀j,j<k+1→idQ own L j=true):=fun h j hj=>by
    by_cases e:j<k
    ·exact hU.out j e
    ·have:j=k:=by omega
     subst this;exact h
   clear hcr;generalize L[k]=x at *;replace hq:Hid (idQ own L k=(isRunB x&&(!(x==own)&&!hasI (L.take k) x))):=hq
   cases hrb:isRunB x with
   |false =>
    have hf:Hid (idsB own L=false):=hno.out (by rw [hq.out,hrb];rfl)
    go_wp2_with fail
    refine(isRun_any x _).mono ?_;rintro e w1 ⟨rfl,rfl⟩;rw [hrb]
    go_wp2_with fail
    go_ret
    exact⟨by rw [hide.out,hf.out];rfl,hBw⟩
   |true =>
    by_cases ho:x=own
    ·have ho':(x==own)=true:=by simp [ho]
     have hf:Hid (idsB own L=false):=hno.out (by rw [hq.out,hrb,ho'];rfl);clear ho
     go_wp2_with fail
     refine(isRun_any x _).mono ?_;rintro e w1 ⟨rfl,rfl⟩;rw [hrb]
     go_wp2_with fail
     go_ret
     exact⟨by rw [hide.out,hf.out];rfl,hBw⟩
    ·have ho':(x==own)=false:=by simp [ho]
     clear ho
     cases hhb:hasI (L.take k) x with
     |true =>
      have hf:Hid (idsB own L=false):=hno.out (by rw [hq.out,hrb,ho',hhb];rfl)
      go_wp2_with fail
      refine(isRun_any x _).mono ?_;rintro e w1 ⟨rfl,rfl⟩;rw [hrb]
      go_wp2_with fail
      refine(contains_any S (L.take k) _ x _ htl hI).mono ?_;rintro e w1 ⟨rfl,rfl⟩;rw [hhb]
      go_wp2_with fail
      go_ret
      exact⟨by rw [hide.out,hf.out];rfl,hBw⟩
     |false =>
      have hn:Hid (∀j,j<k+1→idQ own L j=true):=hyes.out (by rw [hq.out,hrb,ho',hhb];rfl)
      go_wp2_with fail
      refine(isRun_any x _).mono ?_;rintro e w1 ⟨rfl,rfl⟩;rw [hrb]
      go_wp2_with fail
      refine(contains_any S (L.take k) _ x _ htl hI).mono ?_;rintro e w1 ⟨rfl,rfl⟩;rw [hhb]
      go_wp2_with fail
      go_roundw
      case rel=>exact⟨k+1,by omega,by go_num,hn.out,hBr⟩
      case measure=>simp [intOf];omega
  ·have e:k=L.length:=by omega
   subst e;have hy:Hid (idsB own L=true):=idsB_yes hU.out
   go_wp2_with fail
   go_ret
   exact⟨by rw [hide.out,hy.out];rfl,hBw⟩
def countsB (d:RunD):Bool:=decide (1≤d.st)&&(decide (d.st≤3)&&(decide (-1≤d.due)&&(decide (d.due≤400)&&(decide (0≤d.tu)&&decide (d.tu≤9999)))))
theorem countsOk_any (d:RunD) (q:RunP) (w:World) :
  Calls Tryz.prog 138 #[d.val q] w fun e w'=>e=.returned (.bool (countsB d))∧Below w.heap.size w w':=by
 have hb0:Below w.heap.size w (w.alloc (.cells (d.cells q) 34)):=(Below.refl _ _).alloc (Nat.le_refl _) _;have c5:(w.alloc (.cells (d.cells q) 34)).cell? ⟨w.heap.size,5,none⟩=some (.int .i64 d.st):=(runAt_new w d q 34).c5;have c6:(w.alloc (.cells (d.cells q) 34)).cell? ⟨w.heap.size,6,none⟩=some (.int .i64 d.due):=(runAt_new w d q 34).c6;have c12:(w.alloc (.cells (d.cells q) 34)).cell? ⟨w.heap.size,12,none⟩=some (.int .i64 d.tu):=(runAt_new w d q 34).c12;by_cases h0:1≤d.st
 case neg =>
  have e0:decide ((1:Int)≤d.st)=false:=by simp;omega
  have hf:Hid (countsB d=false):=by show countsB d=false;simp only [countsB,e0];rfl
  go_enter Tryz.func138,Tryz.ntmps138
  go_wp2_with fail
  go_ret
  exact⟨by rw [hf.out];rfl,hb0⟩
 have e0:decide ((1:Int)≤d.st)=true:=decide_eq_true h0;by_cases h1:d.st≤3
 case neg =>
  have e1:decide (d.st≤3)=false:=by simp;omega
  have hf:Hid (countsB d=false):=by show countsB d=false;simp only [countsB,e0,e1];rfl
  go_enter Tryz.func138,Tryz.ntmps138
  go_wp2_with fail
  go_ret
  exact⟨by rw [hf.out];rfl,hb0⟩
 have e1:decide (d.st≤3)=true:=decide_eq_true h1;by_cases h2 : -1≤d.due
 case neg =>
  have e2:decide ((-1:Int)≤d.due)=false:=by simp;omega
  have hf:Hid (countsB d=false):=by show countsB d=false;simp only [countsB,e0,e1,e2];rfl
  go_enter Tryz.func138,Tryz.ntmps138
  go_wp2_with fail
  go_ret
  exact⟨by rw [hf.out];rfl,hb0⟩
 have e2:decide ((-1:Int)≤d.due)=true:=decide_eq_true h2;by_cases h3:d.due≤400
 case neg =>
  have e3:decide (d.due≤400)=false:=by simp;omega
  have hf:Hid (countsB d=false):=by show countsB d=false;simp only [countsB,e0,e1,e2,e3];rfl
  go_enter Tryz.func138,Tryz.ntmps138
  go_wp2_with fail
  go_ret
  exact⟨by rw [hf.out];rfl,hb0⟩
 have e3:decide (d.due≤400)=true:=decide_eq_true h3;by_cases h4:0≤d.tu
 case neg =>
  have e4:decide ((0:Int)≤d.tu)=false:=by simp;omega
  have hf:Hid (countsB d=false):=by show countsB d=false;simp only [countsB,e0,e1,e2,e3,e4];rfl
  go_enter Tryz.func138,Tryz.ntmps138
  go_wp2_with fail
  go_ret
  exact⟨by rw [hf.out];rfl,hb0⟩
 have e4:decide ((0:Int)≤d.tu)=true:=decide_eq_true h4;by_cases h5:d.tu≤9999
 case neg =>
  have e5:decide (d.tu≤9999)=false:=by simp;omega
  have hf:Hid (countsB d=false):=by show countsB d=false;simp only [countsB,e0,e1,e2,e3,e4,e5];rfl
  go_enter Tryz.func138,Tryz.ntmps138
  go_wp2_with fail
  go_ret
  exact⟨by rw [hf.out];rfl,hb0⟩
 have e5:decide (d.tu≤9999)=true:=decide_eq_true h5;have hf:Hid (countsB d=true):=by show countsB d=true;simp only [countsB,e0,e1,e2,e3,e4,e5];rfl
 go_enter Tryz.func138,Tryz.ntmps138
 go_wp2_with fail
 go_ret
 exact⟨by rw [hf.out];rfl,hb0⟩
def endB (d:RunD):Bool:=if d.st=3 then (d.mail.length==0)&&((d.links.length==0)&&(d.wat.length==0)) else (d.wk==0)&&(d.wn==0)
theorem endOk_any (d:RunD) (q:RunP) (w:World) :
  Calls Tryz.prog 140 #[d.val q] w fun e w'=>e=.returned (.bool (endB d))∧Below w.heap.size w w':=by
 have hb0:Below w.heap.size w (w.alloc (.cells (d.cells q) 34)):=(Below.refl _ _).alloc (Nat.le_refl _) _;by_cases h3:d.st=3
 ·have e3:(d.st==3)=true:=by simp [h3]
  have hE:Hid (endB d=((d.mail.length==0)&&((d.links.length==0)&&(d.wat.length==0)))):=by show endB d=_;unfold endB;rw [if_pos h3]
  clear h3
  cases hm:(d.mail.length==0) with
  |false =>
   have hm':((d.mail.length:Int)==0)=false:=by simpa using hm
   have hf:Hid (endB d=false):=by show endB d=false;rw [hE.out,hm];rfl
   go_enter Tryz.func140,Tryz.ntmps140
   go_wp2_with fail
   go_ret
   exact⟨by rw [hf.out];rfl,hb0⟩
  |true =>
   have hm':((d.mail.length:Int)==0)=true:=by simpa using hm
   cases hk:(d.links.length==0) with
   |false =>
    have hk':((d.links.length:Int)==0)=false:=by simpa using hk
    have hf:Hid (endB d=false):=by show endB d=false;rw [hE.out,hm,hk];rfl
    go_enter Tryz.func140,Tryz.ntmps140
    go_wp2_with fail
    go_ret
    exact⟨by rw [hf.out];rfl,hb0⟩
   |true =>
    have hk':((d.links.length:Int)==0)=true:=by simpa using hk
    cases hw:(d.wat.length==0) with
    |false =>
     have hw':((d.wat.length:Int)==0)=false:=by simpa using hw
     have hf:Hid (endB d=false):=by show endB d=false;rw [hE.out,hm,hk,hw];rfl
     go_enter Tryz.func140,Tryz.ntmps140
     go_wp2_with fail
     go_ret
     exact⟨by rw [hf.out];rfl,hb0⟩
    |true =>
     have hw':((d.wat.length:Int)==0)=true:=by simpa using hw
     have hf:Hid (endB d=true):=by show endB d=true;rw [hE.out,hm,hk,hw];rfl
     go_enter Tryz.func140,Tryz.ntmps140
     go_wp2_with fail
     go_ret
     exact⟨by rw [hf.out];rfl,hb0⟩
 ·have e3:(d.st==3)=false:=by simp [h3]
  have hE:Hid (endB d=((d.wk==0)&&(d.wn==0))):=by show endB d=_;unfold endB;rw [if_neg h3]
  clear h3
  cases hm:(d.wk==0) with
  |false =>
   have hf:Hid (endB d=false):=by show endB d=false;rw [hE.out,hm];rfl
   go_enter Tryz.func140,Tryz.ntmps140
   go_wp2_with fail
   go_ret
   exact⟨by rw [hf.out];rfl,hb0⟩
  |true =>
   cases hk:(d.wn==0) with
   |false =>
    have hf:Hid (endB d=false):=by show endB d=false;rw [hE.out,hm,hk];rfl
    go_enter Tryz.func140,Tryz.ntmps140
    go_wp2_with fail
    go_ret
    exact⟨by rw [hf.out];rfl,hb0⟩
   |true =>
    have hf:Hid (endB d=true):=by show endB d=true;rw [hE.out,hm,hk];rfl
    go_enter Tryz.func140,Tryz.ntmps140
    go_wp2_with fail
    go_ret
    exact⟨by rw [hf.out];rfl,hb0⟩
def runB (d:RunD):Bool:=isRunB d.id&&(isPlaceB d.pl&&(slotsB d&&(mailB d.mail&&(countsB d&&(idsB d.id d.links&&(idsB d.id d.wat&&endB d))))))
theorem implRunOk_any (S:Nat) (d:RunD) (q:RunP) (w:World) (hS:S≤w.heap.size) (hs:d.Short) (hk2:d.links.length≤q.k2) (hk3:d.wat.length≤q.k3) (hM:RunMem S w d q) :
  Calls Tryz.prog 92 #[d.val q] w fun e w'=>e=.returned (.bool (runB d))∧Below w.heap.size w w':=by
 have hB0:Below w.heap.size w (w.alloc (.cells (d.cells q) 34)):=(Below.refl _ _).alloc (Nat.le_refl _) _;have hA0:RunAt (w.alloc (.cells (d.cells q) 34)) w.heap.size d q:=runAt_new w d q 34;have hS0:S≤(w.alloc (.cells (d.cells q) 34)).heap.size:=by simp;omega
 have hz0:w.heap.size<(w.alloc (.cells (d.cells q) 34)).heap.size:=by simp
 have hM0:RunMem S (w.alloc (.cells (d.cells q) 34)) d q:=hM.below (hB0.mono hS);replace hs:Hid d.Short:=hs;replace hk2:Hid (d.links.length≤q.k2):=hk2;replace hk3:Hid (d.wat.length≤q.k3):=hk3;clear hM
 go_enter Tryz.func92,Tryz.ntmps92
 go_wp2_with fail
 generalize (w.alloc (.cells (d.cells q) 34))=w0 at *;obtain⟨c0,c1,c2,c3,c4,c5,c6,c7,c8,c9,c10,c11,c12⟩:=hA0
 go_wp2_with fail
 refine(isRun_any d.id _).mono ?_;rintro e w1 ⟨rfl,rfl⟩;have hA1:RunAt w1 w.heap.size d q:=⟨c0,c1,c2,c3,c4,c5,c6,c7,c8,c9,c10,c11,c12⟩;have hM1:=hM0;have hS1:=hS0;have hz1:=hz0;have hB1:=hB0;clear c0 c1 c2 c3 c4 c5 c6 c7 c8 c9 c10 c11 c12
 cases h1:isRunB d.id with
 |false =>
  obtain⟨c0,c1,c2,c3,c4,c5,c6,c7,c8,c9,c10,c11,c12⟩:=hA1
  go_wp2_with fail
  go_ret
  exact⟨by simp [runB,h1],hB1⟩
 |true =>
  obtain⟨c0,c1,c2,c3,c4,c5,c6,c7,c8,c9,c10,c11,c12⟩:=hA1
  go_wp2_with fail
  refine(isPlace_any d.pl _).mono ?_;rintro e w2 ⟨rfl,rfl⟩;have hA2:RunAt w2 w.heap.size d q:=⟨c0,c1,c2,c3,c4,c5,c6,c7,c8,c9,c10,c11,c12⟩;have hM2:=hM1;have hS2:=hS1;have hz2:=hz1;have hB2:=hB1;clear c0 c1 c2 c3 c4 c5 c6 c7 c8 c9 c10 c11 c12
  cases h2:isPlaceB d.pl with
  |false =>
   obtain⟨c0,c1,c2,c3,c4,c5,c6,c7,c8,c9,c10,c11,c12⟩:=hA2
   go_wp2_with fail
   go_ret
   exact⟨by simp [runB,h1,h2],hB2⟩
  |true =>
   obtain⟨c0,c1,c2,c3,c4,c5,c6,c7,c8,c9,c10,c11,c12⟩:=hA2
   go_wp2_with fail
   refine(slotsOk_any S d q _ hS2 hM2.m0).mono ?_;rintro e w3 ⟨rfl,hb3⟩;have hq3:=hb3.size;have hA3:RunAt w3 w.heap.size d q:=RunAt.below (S:=w2.heap.size) ⟨c0,c1,c2,c3,c4,c5,c6,c7,c8,c9,c10,c11,c12⟩ hz2 hb3;have hM3:=hM2.below (hb3.mono hS2);have hS3:S≤w3.heap.size:=by omega
   have hz3:w.heap.size<w3.heap.size:=by omega
   have hB3:Below w.heap.size w w3:=hB2.trans (hb3.mono (by omega));clear hb3;clear c0 c1 c2 c3 c4 c5 c6 c7 c8 c9 c10 c11 c12
   cases h3:slotsB d with
   |false =>
    obtain⟨c0,c1,c2,c3,c4,c5,c6,c7,c8,c9,c10,c11,c12⟩:=hA3
    go_wp2_with fail
    go_ret
    exact⟨by simp [runB,h1,h2,h3],hB3⟩
   |true =>
    obtain⟨c0,c1,c2,c3,c4,c5,c6,c7,c8,c9,c10,c11,c12⟩:=hA3
    go_wp2_with fail
    refine(mailOk_any S d q _ hS3 hs.out.s1 hM3.m1).mono ?_;rintro e w4 ⟨rfl,hb4⟩;have hq4:=hb4.size;have hA4:RunAt w4 w.heap.size d q:=RunAt.below (S:=w3.heap.size) ⟨c0,c1,c2,c3,c4,c5,c6,c7,c8,c9,c10,c11,c12⟩ hz3 hb4;have hM4:=hM3.below (hb4.mono hS3);have hS4:S≤w4.heap.size:=by omega
    have hz4:w.heap.size<w4.heap.size:=by omega
    have hB4:Below w.heap.size w w4:=hB3.trans (hb4.mono (by omega));clear hb4;clear c0 c1 c2 c3 c4 c5 c6 c7 c8 c9 c10 c11 c12
    cases h4:mailB d.mail with
    |false =>
     obtain⟨c0,c1,c2,c3,c4,c5,c6,c7,c8,c9,c10,c11,c12⟩:=hA4
     go_wp2_with fail
     go_ret
     exact⟨by simp [runB,h1,h2,h3,h4],hB4⟩
    |true =>
     obtain⟨c0,c1,c2,c3,c4,c5,c6,c7,c8,c9,c10,c11,c12⟩:=hA4
     go_wp2_with fail
     refine(countsOk_any d q _).mono ?_;rintro e w5 ⟨rfl,hb5⟩;have hq5:=hb5.size;have hA5:RunAt w5 w.heap.size d q:=RunAt.below (S:=w4.heap.size) ⟨c0,c1,c2,c3,c4,c5,c6,c7,c8,c9,c10,c11,c12⟩ hz4 hb5;have hM5:=hM4.below (hb5.mono hS4);have hS5:S≤w5.heap.size:=by omega
     have hz5:w.heap.size<w5.heap.size:=by omega
     have hB5:Below w.heap.size w w5:=hB4.trans (hb5.mono (by omega));clear hb5;clear c0 c1 c2 c3 c4 c5 c6 c7 c8 c9 c10 c11 c12
     cases h5:countsB d with
     |false =>
      obtain⟨c0,c1,c2,c3,c4,c5,c6,c7,c8,c9,c10,c11,c12⟩:=hA5
      go_wp2_with fail
      go_ret
      exact⟨by simp [runB,h1,h2,h3,h4,h5],hB5⟩
     |true =>
      obtain⟨c0,c1,c2,c3,c4,c5,c6,c7,c8,c9,c10,c11,c12⟩:=hA5
      go_wp2_with fail
      refine(areOthers_any S d q d.links q.a2 q.k2 _ hS5 hs.out.s2 hk2.out hM5.m2).mono ?_;rintro e w6 ⟨rfl,hb6⟩;have hq6:=hb6.size;have hA6:RunAt w6 w.heap.size d q:=RunAt.below (S:=w5.heap.size) ⟨c0,c1,c2,c3,c4,c5,c6,c7,c8,c9,c10,c11,c12⟩ hz5 hb6;have hM6:=hM5.below (hb6.mono hS5);have hS6:S≤w6.heap.size:=by omega
      have hz6:w.heap.size<w6.heap.size:=by omega
      have hB6:Below w.heap.size w w6:=hB5.trans (hb6.mono (by omega));clear hb6;clear c0 c1 c2 c3 c4 c5 c6 c7 c8 c9 c10 c11 c12
      cases h6:idsB d.id d.links with
      |false =>
       obtain⟨c0,c1,c2,c3,c4,c5,c6,c7,c8,c9,c10,c11,c12⟩:=hA6
       go_wp2_with fail
       go_ret
       exact⟨by simp [runB,h1,h2,h3,h4,h5,h6],hB6⟩
      |true =>
       obtain⟨c0,c1,c2,c3,c4,c5,c6,c7,c8,c9,c10,c11,c12⟩:=hA6
       go_wp2_with fail
       refine(areOthers_any S d q d.wat q.a3 q.k3 _ hS6 hs.out.s3 hk3.out hM6.m3).mono ?_;rintro e w7 ⟨rfl,hb7⟩;have hq7:=hb7.size;have hA7:RunAt w7 w.heap.size d q:=RunAt.below (S:=w6.heap.size) ⟨c0,c1,c2,c3,c4,c5,c6,c7,c8,c9,c10,c11,c12⟩ hz6 hb7;have hM7:=hM6.below (hb7.mono hS6);have hS7:S≤w7.heap.size:=by omega
       have hz7:w.heap.size<w7.heap.size:=by omega
       have hB7:Below w.heap.size w w7:=hB6.trans (hb7.mono (by omega));clear hb7;clear c0 c1 c2 c3 c4 c5 c6 c7 c8 c9 c10 c11 c12
       cases h7:idsB d.id d.wat with
       |false =>
        obtain⟨c0,c1,c2,c3,c4,c5,c6,c7,c8,c9,c10,c11,c12⟩:=hA7
        go_wp2_with fail
        go_ret
        exact⟨by simp [runB,h1,h2,h3,h4,h5,h6,h7],hB7⟩
       |true =>
        obtain⟨c0,c1,c2,c3,c4,c5,c6,c7,c8,c9,c10,c11,c12⟩:=hA7
        go_wp2_with fail
        refine(endOk_any d q _).mono ?_;rintro e w8 ⟨rfl,hb8⟩;have hq8:=hb8.size;have hA8:RunAt w8 w.heap.size d q:=RunAt.below (S:=w7.heap.size) ⟨c0,c1,c2,c3,c4,c5,c6,c7,c8,c9,c10,c11,c12⟩ hz7 hb8;have hM8:=hM7.below (hb8.mono hS7);have hS8:S≤w8.heap.size:=by omega
        have hz8:w.heap.size<w8.heap.size:=by omega
        have hB8:Below w.heap.size w w8:=hB7.trans (hb8.mono (by omega));clear hb8;clear c0 c1 c2 c3 c4 c5 c6 c7 c8 c9 c10 c11 c12
        go_wp2_with fail
        go_ret
        exact⟨by simp [runB,h1,h2,h3,h4,h5,h6,h7],hB8⟩
end Go.Proofs.YtgmkmeodimmdoaaGreatDoor.Eld
