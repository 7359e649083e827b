import Derived.Test.YtgmkmeodimmdoaaGreatDoorBQb
import Derived.Deep.LoopGhost
import Derived.Deep.RegionWith
import Derived.BigRegion
set_option maxHeartbeats 8000000
set_option maxRecDepth 20000
namespace Go.Proofs.YtgmkmeodimmdoaaGreatDoor.Eld
open Go.ChangeShapes Go.WideShapes Go.ChangeAt Go.RowKit Go.Joins
def fillS (n k:Nat):List Int:=0::(List.replicate (k-1) (-1)++List.replicate (n-k) 0)
theorem fillS_len (n k:Nat) (h1:1≤k) (h:k≤n):(fillS n k).length=n:=by simp [fillS];omega
theorem fillS_step (n k:Nat) (h1:1≤k) (h:k<n):(fillS n k).set k (-1)=fillS n (k+1):=by
 unfold fillS;obtain⟨j,rfl⟩:∃j,k=j+1:=⟨k-1,by omega⟩;rw [List.set_cons_succ,Nat.add_sub_cancel,List.set_append_right _ _ (by simp),List.length_replicate,Nat.sub_self,show n-(j+1)=(n-(j+1+1))+1 by omega,List.replicate_succ,List.set_cons_zero,Nat.add_sub_cancel,List.replicate_succ',List.append_assoc];rfl
theorem fillS_start (n:Nat) (h:1≤n):(fillS n n).set 0 1=startV n:=by
 obtain⟨m,rfl⟩:∃m,n=m+1:=⟨n-1,by omega⟩;simp [fillS,startV,List.replicate_succ]
theorem fillS_zero (n:Nat) (h:1≤n):fillS n 1=List.replicate n 0:=by
 obtain⟨m,rfl⟩:∃m,n=m+1:=⟨n-1,by omega⟩;simp [fillS,List.replicate_succ]
theorem l3Full_any (C:List OpV) (ao:Option Addr) (cap:Nat) (w:World) (hC:codeB C=true) (h:CodeAt w ao C) :
  Calls Tryz.prog 42 #[.slice ao C.length cap] w fun e w'=>∃L,e=.returned (.slice (some ⟨w.heap.size,0,none⟩) C.length C.length)∧IsFull C L∧Bits w' w.heap.size L∧Below w.heap.size w w':=by
 obtain⟨hw,hl16,hok⟩:=codeB_well hC;obtain⟨inf,i1,i2,i3,i4⟩:=info_intI;have hn1:1≤C.length:=hw.1
 go_enter Tryz.func42,Tryz.ntmps42
 go_wp2_with (refine wpList_make_full _ rfl (.tmp 8) (.tmp 8) 25 rfl w.heap.size 3 inf _ 1 Tryz.underlying25 i1 i2 i3 .i64 .i64 _ _ C.length rfl rfl rfl rfl (by rw [i4];omega) (by unfold maxLen;omega) (Nat.le_refl _) ?_;intro w2 ho hg2)
 have hF:Bits w2 w.heap.size (fillS C.length 1):=by
  have e:(madeCells (Value.cells (.int .i64 0)) (C.length*1)).toList=(fillS C.length 1).map (Value.int .i64):=by
   show (madeCells #[.int .i64 0] (C.length*1)).toList=_;rw [toList_madeCells_one,fillS_zero _ hn1];simp
  rw [e] at ho;have hfl:=fillS_len C.length 1 (Nat.le_refl _) hn1;unfold Bits;rw [hfl];exact ho
 have hz2:=hg2.size;have hB2:Below w.heap.size w w2:=(Below.refl _ _).grown hg2 (by omega) (by intro k hk;cases hk);clear ho hg2;generalize hFe:w.heap.size=F at *
 go_loopw [4] (fun i wr=>∃k:Nat,1≤k∧k≤C.length∧i=.int .i64 k∧Bits wr F (fillS C.length k)∧Below F w2 wr) (fun i _=>C.length-(intOf i).toNat)
 case atStart=>exact⟨1,Nat.le_refl _,hn1,rfl,hF,Below.refl _ _⟩
 case round =>
  clear hF;obtain⟨k,hk1,hk,rfl,hF,hB⟩:=hrel;have hfl:=fillS_len C.length k hk1 hk;by_cases hlt:k<C.length
  ·have c0:=hF.cell (i:=k) (by rw [hfl];exact hlt);have f0:=hF.free k;have hF':=hF.set k (-1);rw [fillS_step _ _ hk1 hlt] at hF';have R:Hid (Bits (wr.setCell ⟨F,k,none⟩ (.int .i64 (-1))) F (fillS C.length (k+1))):=hF';clear hF hF' hfl;generalize atV (fillS C.length k) k=x0 at *
   go_wp2_with fail
   go_roundw
   case rel=>exact⟨k+1,by omega,by omega,by go_num,R.out,hB.setCell (by exact Nat.le_refl _) _⟩
   case measure=>simp [intOf];omega
  ·have e:k=C.length:=by omega
   subst e;have c0:=hF.cell (i:=0) (by rw [hfl];omega);have f0:=hF.free 0;have hF0:Hid (Bits (wr.setCell ⟨F,0,none⟩ (.int .i64 1)) F (startV C.length)):=by
    show Bits _ _ _;rw [←fillS_start _ hn1];exact hF.set 0 1
   obtain⟨r1,r2,r3⟩:=rnd_start hw;clear hF hfl;generalize atV (fillS C.length C.length) 0=x0 at *;have hB':Hid (Below F w2 (wr.setCell ⟨F,0,none⟩ (.int .i64 1))):=hB.setCell (by exact Nat.le_refl _) _
   go_wp2_with fail
   go_loopg [5] (sumR (startV C.length)+1) (fun gk s5 wx=>∃V m,s5=.bool m∧Bits wx F V∧Vec C V∧Top C V∧Le (atV V 0) 1∧(m=false→IsFull C V)∧(m=true→sumR V+1≤gk)∧Below F w2 wx)
   case atStart=>exact⟨startV C.length,true,rfl,hF0.out,r1,r2,r3,fun h=>(by cases h),fun _=>Nat.le_refl _,hB'.out⟩
   case round =>
    clear hF0 hB r1 r2 r3 hB' c0 f0;obtain⟨V,m,rfl,hF,hV,hT,hL1,hdone,hgk,hB⟩:=hrel
    cases m with
    |false =>
     have hd:Hid (IsFull C V):=hdone rfl;clear hdone hgk
     go_wp2_with fail
     go_ret
     rw [hFe];exact⟨V,rfl,hd.out,hF,hB2.trans (hB.mono (by omega))⟩
    |true =>
     have hgk':=hgk rfl;clear hdone hgk
     go_wp2_with fail
     go_loopw [5,6] (fun s5 s6 wy=>∃(k:Nat) (U:List Int) (m:Bool),k≤C.length∧s6=.int .i64 k∧s5=.bool m∧Rnd C V U m∧(m=false→Upto C k U)∧Bits wy F U∧Below F w2 wy) (fun _ i _=>C.length-(intOf i).toNat)
     case atStart=>exact⟨0,V,false,Nat.zero_le _,rfl,rfl,⟨hV,hT,hL1,fun _=>rfl,fun h=>by cases h⟩,fun _ j _ h=>by omega,hF,hB⟩
     case round =>
      clear hF hV hT hL1 hB;obtain⟨k,U,m,hk,rfl,rfl,hR,hU,hF,hB⟩:=hrel;have hUl:U.length=C.length:=hR.1.1;by_cases hlt:k<C.length
      ·have c0:=hF.cell (i:=k) (by rw [hUl];exact hlt);have hki:(k:Int)<(C.length:Int):=by omega
       by_cases h0:0≤atV U k
       ·have hsnd:Hid (∀p∈fromW C[k] k C.length (atV U k),Sound C p):=fun p hp=>sound_ways hw hR.1 hR.2.1 hlt h0 p ((fromW_mem _ _ _ _ _).1 hp)
        have hcall:Hid (Calls Tryz.prog 74 #[.slice ao C.length cap,.slice (some ⟨F,0,none⟩) C.length C.length,.int .i64 k] wr fun e w' =>
          e=.returned (.bool (foldB U (fromW C[k] k C.length (atV U k))))∧Bits w' F (foldV U (fromW C[k] k C.length (atV U k)))∧But F wr w'):=l3From_any C ao cap F U k wr hC (h.below (by rw [hFe];exact hB2.trans hB)) hF hR.1 hlt h0
        have hup:Hid (∀q∈waysL C[k] k C.length (atV U k),q∈fromW C[k] k C.length (atV U k)):=fun q hq=>(fromW_mem _ _ _ _ _).2 hq
        have hFlt:=hF.lt;generalize hx:atV U k=x at *;have hx':Hid (atV U k=x):=hx;generalize hps:fromW C[k] k C.length x=ps at *;clear hx hps;obtain⟨f1,f2⟩:=rnd_fold ps hR hsnd.out;have f1':Hid (Rnd C V (foldV U ps) (foldB U ps||m)):=f1;have f2':Hid (foldB U ps=false→foldV U ps=U∧∀p∈ps,Le (atV U p.1) p.2):=f2;have hU':Hid (m=false→Upto C k U):=hU;have hR':Hid (Rnd C V U m):=hR;clear f1 f2 hU hR
        go_wp2_with fail
        refine hcall.out.mono ?_;rintro e w3 ⟨rfl,hF3,bt3⟩;have hB3:Below F w2 w3:=hB.trans (bt3.below (Nat.le_refl _) (by omega))
        cases hb:foldB U ps with
        |true =>
         have hR3:Hid (Rnd C V (foldV U ps) true):=by have:=f1'.out;rw [hb] at this;exact this
         go_wp2_with fail
         go_roundw
         case rel=>exact⟨k+1,foldV U ps,true,by omega,by go_num,rfl,hR3.out,(fun h=>by cases h),hF3,hB3⟩
         case measure=>simp [intOf];omega
        |false =>
         obtain⟨g1,g2⟩:=f2'.out hb;rw [g1] at hF3;have hn:Hid (m=false→Upto C (k+1) U):=fun hm j hj hjk h0 q hq=>by
          by_cases e:j<k
          ·exact hU'.out hm j hj e h0 q hq
          ·have:j=k:=by omega
           subst this;rw [hx'.out] at hq;exact g2 q (hup.out q hq)
         clear g1 g2
         go_wp2_with fail
         go_roundw
         case rel=>exact⟨k+1,U,m,by omega,by go_num,rfl,hR'.out,hn.out,hF3,hB3⟩
         case measure=>simp [intOf];omega
       ·have hU':Hid (m=false→Upto C (k+1) U):=fun hm j hj hjk hj0 q hq=>by
         by_cases e:j<k
         ·exact hU hm j hj e hj0 q hq
         ·have:j=k:=by omega
          subst this;exact absurd hj0 h0
        have hR':Hid (Rnd C V U m):=hR;clear hU hR;generalize atV U k=x at *
        go_wp2_with fail
        go_roundw
        case rel=>exact⟨k+1,U,m,by omega,by go_num,rfl,hR'.out,hU'.out,hF,hB⟩
        case measure=>simp [intOf];omega
      ·have e:k=C.length:=by omega
       subst e;have hd:Hid (m=false→IsFull C U):=fun e=>by
        subst e;exact rnd_done hR (hU rfl)
       have hR':Hid (Rnd C V U m):=hR;clear hU hR
       go_wp2_with fail
       go_roundg (sumR U+1-(if m=true then 0 else 1))
       case measure =>
        have h5:=hR'.out.2.2.2.2;have h4:=hR'.out.2.2.2.1
        cases m with
        |true=>have:=h5 rfl;simp;omega
        |false=>rw [h4 rfl];simp;omega
       case rel =>
        exact⟨U,m,rfl,hF,hR'.out.1,hR'.out.2.1,hR'.out.2.2.1,hd.out,(fun e=>by subst e;simp),hB⟩
theorem specCodeSafe_any (C:List OpV) (ao:Option Addr) (cap:Nat) (w:World) (hl:C.length≤1048576) (h:CodeAt w ao C) :
  Calls Tryz.prog 39 #[.slice ao C.length cap] w fun e w'=>∃b,e=.returned (.bool b)∧SafeOf C b∧Below w.heap.size w w':=by
 go_enter Tryz.func39,Tryz.ntmps39
 go_wp2_with fail
 refine(specCodeOk_any C ao cap _ hl h).mono ?_;rintro e w1 ⟨rfl,hb1⟩;have hz1:=hb1.size
 cases hC:codeB C with
 |false =>
  go_wp2_with fail
  go_ret
  exact⟨false,rfl,.inr ⟨hC,rfl⟩,hb1⟩
 |true =>
 obtain⟨hw,hl16,hok⟩:=codeB_well hC;have hcode:=h.below hb1
 go_wp2_with fail
 refine(l3Full_any C ao cap _ hC hcode).mono ?_;rintro e w2 ⟨V,rfl,hF,hBits,hb2⟩;have hz2:=hb2.size;have hVl:V.length=C.length:=hF.1.1.1;generalize hFe:w1.heap.size=F at *
 go_wp2_with fail
 go_loopw [4] (fun i wr=>∃k:Nat,k≤C.length∧i=.int .i64 k∧Below w2.heap.size w2 wr∧∀j,j<k→safeP C V j) (fun i _=>C.length-(intOf i).toNat)
 case atStart=>exact⟨0,Nat.zero_le _,rfl,Below.refl _ _,fun j hj=>by omega⟩
 case round =>
  obtain⟨k,hk,rfl,hB,hU⟩:=hrel;have hzr:=hB.size;by_cases hlt:k<C.length
  ·have hBr:Bits wr F V:=hBits.keep (hB.block F hBits.lt);have c0:=hBr.cell (i:=k) (by omega);have hki:(k:Int)<(C.length:Int):=by omega
   have hbd:=hF.1.1.2 k;have hbd1:=hbd.1;have hbd2:=hbd.2;have hcr:CodeAt wr ao C:=hcode.below (by rw [hFe];exact hb2.trans (hB.mono (by omega)));rcases hcr with rfl|⟨b,o,rfl,hbl,hs⟩
   ·exact absurd hlt (by simp)
   have st:=hs k hlt;have oi:=opIs_of (hok k hlt);have hub:=uses_bd (k:=C[k].k) (r:=C[k].r) (s:=C[k].s) ⟨oi.r1,oi.r2⟩ ⟨oi.s1,oi.s2⟩;have hul:=uses_len C[k].k C[k].r C[k].s;have hk1:=oi.k1;have hk2:=oi.k2;have hP:Hid (safeP C V k↔((0≤atV V k)→(∀u∈usesL C[k].k C[k].r C[k].s,hasB (atV V k) u=true)∧(endsB C[k].k=true∨k+1<C.length))):=by
    show _↔_;unfold safeP;exact⟨fun hh h0=>hh hlt h0,fun hh _ h0=>hh h0⟩
   have hnn:∀y,y=atV V k→0≤y∨y = -1:=fun y e=>by subst e;omega
   have hnn:=hnn _ rfl;have hU':Hid (∀j,j<k→safeP C V j):=hU;have hnext:Hid (safeP C V k→∀j,j<k+1→safeP C V j):=fun hh j hj=>by
    by_cases e:j<k
    ·exact hU'.out j e
    ·have:j=k:=by omega
     subst this;exact hh
   have hno:Hid (¬safeP C V k→SafeOf C false):=fun hh=>safe_no hC hF hlt hh
   generalize atV V k=x at *;generalize C[k]=op at *;obtain⟨s0,s1,s2,s3,s4,s5⟩:=st;clear hs hU oi;rcases hnn with h0|h0
   ·go_wp2_with fail
    refine(l2Uses_any op.k op.r op.s op.t op.a op.b _ hk1 hk2).mono ?_;rintro e w3 ⟨b5,rfl,hb5,hb5',hc5,hb3⟩;have hz3:=hb3.size;have hB3:Below w2.heap.size w2 w3:=hB.trans (hb3.mono hzr);have d0:w3.cell? ⟨F,k,none⟩=some (.int .i64 x):=(hb3.cell (p:=⟨F,k,none⟩) hBr.lt).trans c0;have t0:w3.cell? ⟨b,o+k*6,none⟩=some (.int .i64 op.k):=(hb3.cell (p:=⟨b,o+k*6,none⟩) hbl).trans s0;have hFlt:=hBr.lt;generalize hMe:usesL op.k op.r op.s=M at *;clear hMe hb3 s0 s1 s2 s3 s4 s5 c0
    go_wp2_with fail
    go_loopw [6] (fun i wy=>∃j:Nat,j≤M.length∧i=.int .i64 j∧Below w3.heap.size w3 wy∧∀q (hq:q<M.length),q<j→hasB x M[q]=true) (fun i _=>M.length-(intOf i).toNat)
    case atStart=>exact⟨0,Nat.zero_le _,rfl,Below.refl _ _,fun q _ h=>by omega⟩
    case round =>
     obtain⟨j,hj,rfl,hBy,hq⟩:=hrel;have hzy:=hBy.size;by_cases hjlt:j<M.length
     ·have e0:wr.cell? ⟨F,k,none⟩=some (.int .i64 x):=(hBy.cell (p:=⟨F,k,none⟩) (by show F<w3.heap.size;omega)).trans d0;have e1:wr.cell? ⟨b5,j,none⟩=some (.int .i64 M[j]):=by
       rw [hBy.cell (p:=⟨b5,j,none⟩) hb5',hc5 j hjlt];simp [List.getD_eq_getElem?_getD,List.getElem?_eq_getElem hjlt]
      have hu:=hub M[j] (List.getElem_mem hjlt);have hji:(j:Int)<(M.length:Int):=by omega
      have hq':Hid (∀b,hasB x M[j]=b→(b=true→∀q (hq:q<M.length),q<j+1→hasB x M[q]=true)∧(b=false→¬safeP C V k)):=by
       intro b hb;refine⟨fun e q hq1 hq2=>?_,fun e hh=>?_⟩
       ·by_cases e2:q<j
        ·exact hq q hq1 e2
        ·have:q=j:=by omega
         subst this;rw [hb];exact e
       ·have:=(hP.out.1 hh h0).1 M[j] (List.getElem_mem hjlt);rw [hb,e] at this;cases this
      generalize M[j]=u at *;clear hq d0
      go_wp2_with fail
      cases hh:hasB x u with
      |true =>
       have hn:=(hq'.out true hh).1 rfl;have hn':Hid (∀q (hq:q<M.length),q<j+1→hasB x M[q]=true):=hn;clear hn
       go_region_with (go_at_call 73;refine(l3Has_any x u _ h0 hbd2 hu.1 hu.2).mono ?_;rintro e w4 ⟨rfl,hb4⟩)
       all_goals
        have hB4:Below w3.heap.size w3 w4:=hBy.trans ((show Below wr.heap.size wr w4 from⟨hb4.os,hb4.tape,hb4.output,hb4.size,hb4.block⟩).mono hzy)
        go_step
        go_wp2_with fail
        go_roundw
        case rel=>exact⟨j+1,by omega,by go_num,hB4,hn'.out⟩
        case measure=>simp [intOf];omega
      |false =>
       have hn:=(hq'.out false hh).2 rfl;have hn':Hid (SafeOf C false):=hno.out hn;clear hn
       go_region_with (go_at_call 73;refine(l3Has_any x u _ h0 hbd2 hu.1 hu.2).mono ?_;rintro e w4 ⟨rfl,hb4⟩)
       all_goals
        have hB4:Below w3.heap.size w3 w4:=hBy.trans ((show Below wr.heap.size wr w4 from⟨hb4.os,hb4.tape,hb4.output,hb4.size,hb4.block⟩).mono hzy)
        go_step
        go_wp2_with fail
        go_ret
        exact⟨false,rfl,hn'.out,hb1.trans ((hb2.mono (by omega)).trans ((hB3.mono (by omega)).trans (hB4.mono (by omega))))⟩
     ·have e:j=M.length:=by omega
      subst e;have u0:wr.cell? ⟨b,o+k*6,none⟩=some (.int .i64 op.k):=(hBy.cell (p:=⟨b,o+k*6,none⟩) (by show b<w3.heap.size;omega)).trans t0;have hall:Hid (∀u∈M,hasB x u=true):=fun u hu=>by
       obtain⟨q,hq1,rfl⟩:=List.getElem_of_mem hu;exact hq q hq1 hq1
      have hBy2:Below w2.heap.size w2 wr:=hB3.trans (hBy.mono (by omega));clear hq d0 t0;by_cases hlast:k+1=C.length
      ·have hl1:((k:Int)+1==(C.length:Int))=true:=by simp;omega
       by_cases h9:op.k=9
       ·have b9:(op.k != 9)=false:=by simp [h9]
        have hn:Hid (∀j,j<k+1→safeP C V j):=hnext.out (hP.out.2 fun _=>⟨hall.out,.inl (by simp [endsB,h9])⟩);clear h9 hlast
        go_wp2_with fail
        go_roundw
        case rel=>exact⟨k+1,by omega,by go_num,hBy2,hn.out⟩
        case measure=>simp [intOf];omega
       ·have b9:(op.k != 9)=true:=by simp [h9]
        by_cases h14:op.k=14
        ·have b14:(op.k != 14)=false:=by simp [h14]
         have hn:Hid (∀j,j<k+1→safeP C V j):=hnext.out (hP.out.2 fun _=>⟨hall.out,.inl (by simp [endsB,h14])⟩);clear h9 h14 hlast
         go_wp2_with fail
         go_roundw
         case rel=>exact⟨k+1,by omega,by go_num,hBy2,hn.out⟩
         case measure=>simp [intOf];omega
        ·have b14:(op.k != 14)=true:=by simp [h14]
         have hn:Hid (SafeOf C false):=hno.out (fun hh=>by
          rcases (hP.out.1 hh h0).2 with e|e
          ·simp [endsB,h9,h14] at e
          ·omega)
         clear h9 h14 hlast
         go_wp2_with fail
         go_ret
         exact⟨false,rfl,hn.out,hb1.trans ((hb2.mono (by omega)).trans (hBy2.mono (by omega)))⟩
      ·have hl1:((k:Int)+1==(C.length:Int))=false:=by simp;omega
       have hn:Hid (∀j,j<k+1→safeP C V j):=hnext.out (hP.out.2 fun _=>⟨hall.out,.inr (by omega)⟩);clear hlast
       go_wp2_with fail
       go_roundw
       case rel=>exact⟨k+1,by omega,by go_num,hBy2,hn.out⟩
       case measure=>simp [intOf];omega
   ·have hx0:x<0:=by omega
    have hn:Hid (∀j,j<k+1→safeP C V j):=hnext.out (hP.out.2 fun hh=>by omega);clear h0
    go_wp2_with fail
    go_roundw
    case rel=>exact⟨k+1,by omega,by go_num,hB,hn.out⟩
    case measure=>simp [intOf];omega
  ·have e:k=C.length:=by omega
   subst e;have hU':Hid (∀j,j<C.length→safeP C V j):=hU;clear hU
   go_wp2_with fail
   go_ret
   exact⟨true,rfl,safe_yes hC hF hU'.out,hb1.trans ((hb2.mono (by omega)).trans (hB.mono (by omega)))⟩
end Go.Proofs.YtgmkmeodimmdoaaGreatDoor.Eld
