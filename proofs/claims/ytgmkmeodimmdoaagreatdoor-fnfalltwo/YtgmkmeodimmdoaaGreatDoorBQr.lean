import Derived.Test.YtgmkmeodimmdoaaGreatDoorBQq
import Derived.Deep.LoopGhost
set_option maxHeartbeats 8000000
set_option maxRecDepth 20000
namespace Go.Proofs.YtgmkmeodimmdoaaGreatDoor.Eld
open Go.ChangeShapes Go.WideShapes Go.ChangeAt Go.RowKit Go.Joins
def fillL (n k:Nat):List Int:=List.replicate k (-1)++List.replicate (n-k) 0
theorem fillL_len (n k:Nat) (h:k≤n):(fillL n k).length=n:=by simp [fillL];omega
theorem fillL_step (n k:Nat) (h:k<n):(fillL n k).set k (-1)=fillL n (k+1):=by
 unfold fillL;rw [List.set_append_right _ _ (by simp),List.length_replicate,Nat.sub_self,show n-k=(n-(k+1))+1 by omega,List.replicate_succ,List.set_cons_zero,List.replicate_succ',List.append_assoc];rfl
theorem implCodeFull_any (C:List OpV) (ao:Option Addr) (cap:Nat) (w:World) (hl:C.length≤1048576) (h:CodeAt w ao C) :
  Calls Tryz.prog 89 #[.slice ao C.length cap] w fun e w'=>∃v L,e=.returned v∧FullOf C L∧Owns w' w.heap.size v L∧Below w.heap.size w w':=by
 go_enter Tryz.func89,Tryz.ntmps89
 go_wp2_with fail
 refine(implCodeOk_any C ao cap _ hl h).mono ?_;rintro e w1 ⟨rfl,hb1⟩
 cases hC:codeB C with
 |false =>
  go_wp2_with fail
  go_ret
  exact⟨_,[],rfl,.inr ⟨hC,rfl⟩,⟨rfl,.inl ⟨rfl,rfl⟩⟩,hb1⟩
 |true =>
 obtain⟨hw,hl16,hok⟩:=codeB_well hC;obtain⟨inf,i1,i2,i3,i4⟩:=info_intI;have hz1:=hb1.size
 go_wp2_with (refine wpList_make_full _ rfl (.tmp 12) (.tmp 12) 25 rfl w1.heap.size 3 inf _ 1 Tryz.underlying25 i1 i2 i3 .i64 .i64 _ _ C.length rfl rfl rfl rfl (by rw [i4];omega) (by unfold maxLen;omega) (Nat.le_refl _) ?_;intro w2 ho hg2)
 have hF:Bits w2 w1.heap.size (fillL C.length 0):=by
  have e:(madeCells (Value.cells (.int .i64 0)) (C.length*1)).toList=(fillL C.length 0).map (Value.int .i64):=by
   show (madeCells #[.int .i64 0] (C.length*1)).toList=_;rw [toList_madeCells_one];simp [fillL]
  rw [e] at ho;have hfl:=fillL_len C.length 0 (Nat.zero_le _);unfold Bits;rw [hfl];exact ho
 have hz2:=hg2.size;have hB2:Below w.heap.size w w2:=hb1.grown hg2 (by omega) (by intro k hk;cases hk);have hB12:Below w1.heap.size w1 w2:=(Below.refl _ _).grown hg2 (by omega) (by intro k hk;cases hk);have hcode:CodeAt w1 ao C:=h.below hb1;clear ho hg2 h;generalize hFe:w1.heap.size=F at *
 go_loopw [16] (fun i wr=>∃k:Nat,k≤C.length∧i=.int .i64 k∧Bits wr F (fillL C.length k)∧Below F w2 wr∧wr.heap.size=w2.heap.size) (fun i _=>C.length-(intOf i).toNat)
 case atStart=>exact⟨0,Nat.zero_le _,rfl,hF,Below.refl _ _,rfl⟩
 case round =>
  clear hF;obtain⟨k,hk,rfl,hF,hB,hsz⟩:=hrel;have hfl:=fillL_len C.length k hk;by_cases hlt:k<C.length
  ·have c0:=hF.cell (i:=k) (by rw [hfl];exact hlt);have f0:=hF.free k;have hF':=hF.set k (-1);rw [fillL_step _ _ hlt] at hF';have R:Hid (Bits (wr.setCell ⟨F,k,none⟩ (.int .i64 (-1))) F (fillL C.length (k+1))):=hF';clear hF hF' hfl;generalize atV (fillL C.length k) k=x0 at *;have hsz':Hid (wr.heap.size=w2.heap.size):=hsz;clear hsz
   go_wp2_with fail
   go_roundw
   case rel=>exact⟨k+1,by omega,by go_num,R.out,hB.setCell (by exact Nat.le_refl _) _,by simp [World.setCell];exact hsz'.out⟩
   case measure=>simp [intOf];omega
  ·have e:k=C.length:=by omega
   subst e;have hF0:Hid (Bits wr F (List.replicate C.length (-1))):=by
    show Bits wr F (List.replicate C.length (-1));have e:fillL C.length C.length=List.replicate C.length (-1):=by simp [fillL]
    rw [←e];exact hF
   clear hF hfl
   go_wp2_with fail
   have hlt2:F<w2.heap.size:=by have:=(Bits.lt hF0.out);omega
   go_loopg [5] (3*sumR (List.replicate C.length (-1))+1) (fun gk v5 wx=>∃V Q,gk=3*sumR V+Q.length∧gk≤241∧Bits wx F V∧QAt wx w2.heap.size v5 Q∧Inv C V Q∧Below F w2 wx∧w2.heap.size≤wx.heap.size)
   case atStart =>
    refine⟨List.replicate C.length (-1),[(0,1)],rfl,by have:=sum_le (List.replicate C.length (-1));simp at this;omega,hF0.out.keep (Below.heap_alloc _ _ _ (by omega)),?_,inv_start hw,hB.alloc (by omega) _,by simp;omega⟩;refine⟨_,1,rfl,by simp,by decide,.inr ⟨w2.heap.size,0,rfl,Nat.le_refl _,by simp;omega,fun j hj=>?_,fun j hj=>?_⟩⟩
    ·have e:j=0∨j=1:=by simp at hj;omega
     rcases e with rfl|rfl<;>simp [go_sem,wayCells,←hsz]
    ·have e:j=0∨j=1:=by simp at hj;omega
     rcases e with rfl|rfl<;>simp [go_sem,←hsz]
   case round =>
    clear hF0 hB hsz;obtain⟨V,Q,hgk,hgb,hF,⟨ao2,cap2,rfl,hq1,hq2,hq3⟩,hI,hB,hzx⟩:=hrel;have hVl:V.length=C.length:=hI.1.1
    cases Q with
    |nil =>
     go_wp2_with fail
     go_ret
     refine⟨_,V,rfl,.inl ⟨hC,inv_done hI⟩,?_,?_⟩
     ·have hO:Owns wr F (.slice (some ⟨F,0,none⟩) V.length V.length) V:=hF;rw [hVl] at hO;exact Owns.mono hO (by omega)
     ·exact hB2.trans (hB.mono (by omega))
    |cons p Q =>
     rcases hq3 with h0|⟨g,o,rfl,hg,hgl,hc,hf⟩
     ·exact absurd hq1 (by rw [h0];simp)
     have hs:=hI.2.2.1 p (by simp);have hp:=hs.1;have c0:wr.cell? ⟨g,o,none⟩=some (.int .i64 (p.1:Int)):=hc 0 (by simp);have c1:wr.cell? ⟨g,o+1,none⟩=some (.int .i64 p.2):=hc 1 (by simp;omega);have d0:=hF.cell (i:=p.1) (by rw [hVl];exact hp);have f0:=hF.free p.1;have hgF:g≠F:=by omega
     simp only [List.length_cons] at hq1 hgk;have hand:=and_i64 (hI.1.2 p.1) hs.2.1.1 hs.2.1.2;generalize hx:atV V p.1=x at *;generalize hm:meet x p.2=m at *;have hx':Hid (atV V p.1=x):=hx;have hm':Hid (meet x p.2=m):=hm;clear hx hm;have hc':Hid (∀j,j<(Q.length+1)*2→wr.cell? ⟨g,o+j,none⟩=(wayCells (p::Q))[j]?):=hc;have hf':Hid (∀j,j<cap2*2→(wr.cell? ⟨g,o+j,none⟩).isSome=true∧wr.frozen? ⟨g,o+j,none⟩=false):=hf;clear hc hf;have hFl:F<wr.heap.size:=by omega
     have hpi:(p.1:Int)<(C.length:Int):=by omega
     by_cases hc1:cap2=1
     ·subst hc1;have hQ0:Q=[]:=List.eq_nil_of_length_eq_zero (by omega);have hq:QAt wr w2.heap.size (.slice (some ⟨g,o,none⟩) 0 0) Q:=by
       have:=QAt.tail (cap:=1) (ao:=some ⟨g,o,none⟩) hq1 hq2 hg hgl hc'.out hf'.out (.inl rfl);rw [hQ0] at this ⊢;exact this
      clear hQ0
      go_wp2_with fail
      generalize (Value.slice (some ⟨g,o,none⟩) 0 0)=v5 at *
      go_quiet (fail)
      have hWk:∀k,k<wr.heap.size→((wr.alloc (.cells #[.int .i64 (p.1:Int),.int .i64 p.2] 145)).drewN nq).heap[k]?=wr.heap[k]?:=fun k hk=>Below.heap_alloc wr _ k hk
      have hWb:Below F wr ((wr.alloc (.cells #[.int .i64 (p.1:Int),.int .i64 p.2] 145)).drewN nq):=below_drewN ((Below.refl _ _).alloc (by omega) _) nq;have hWz:((wr.alloc (.cells #[.int .i64 (p.1:Int),.int .i64 p.2] 145)).drewN nq).heap.size=wr.heap.size+1:=by simp [World.drewN]
      by_cases he:m=x
      ·have he':(m==x)=true:=by simp [he]
       have hI':Hid (Inv C V Q):=inv_same hI (by rw [hx'.out,hm'.out];exact he);have hWk':Hid (∀k,k<wr.heap.size→((wr.alloc (.cells #[.int .i64 (p.1:Int),.int .i64 p.2] 145)).drewN nq).heap[k]?=wr.heap[k]?):=hWk;clear he hI hWk hWz
       go_wp2_with fail
       go_roundg (3*sumR V+Q.length)
       case measure=>omega
       case rel =>
        exact⟨V,Q,rfl,by omega,hF.keep (hWk'.out F hFl),hq.keep (by simp [World.drewN]) (fun k _ hk=>hWk'.out k hk),hI'.out,hB.trans hWb,by simp [World.drewN];omega⟩
      ·have he':(m==x)=false:=by simp [he]
       have hmb:Hid (Bd m∧0≤m):=by
        have hb:=meet_bd (hI.1.2 p.1) hs.2.1.1 hs.2.1.2;rw [hx'.out,hm'.out] at hb;exact⟨⟨by omega,hb.2⟩,hb.1⟩
       have hI':Hid (Inv C (V.set p.1 m) (Q++waysL C[p.1] p.1 C.length m)):=by
        have:=inv_less hw hI hp;rw [hx'.out,hm'.out] at this;exact this
       have hms:Hid (sumR (V.set p.1 m)<sumR V):=by
        have:=sum_merge hI.1 hs (by rw [hx'.out,hm'.out];exact he);rw [hx'.out,hm'.out] at this;exact this
       have hF1:Hid (Bits (((wr.alloc (.cells #[.int .i64 (p.1:Int),.int .i64 p.2] 145)).drewN nq).setCell ⟨F,p.1,none⟩ (.int .i64 m)) F (V.set p.1 m)):=(hF.keep (hWk F hFl)).set p.1 m;have hq1':Hid (QAt (((wr.alloc (.cells #[.int .i64 (p.1:Int),.int .i64 p.2] 145)).drewN nq).setCell ⟨F,p.1,none⟩ (.int .i64 m)) w2.heap.size v5 Q) :=
        (hq.keep (by rw [hWz];omega) (fun k _ hk=>hWk k hk)).keep (by simp [World.setCell]) (fun k hk _=>Below.heap_setCell _ _ _ _ (by dsimp only;omega))
       have hWb':Hid (Below F wr (((wr.alloc (.cells #[.int .i64 (p.1:Int),.int .i64 p.2] 145)).drewN nq).setCell ⟨F,p.1,none⟩ (.int .i64 m))):=hWb.setCell (by exact Nat.le_refl _) _;clear he hWk hF hq hWb hWz
       go_wp2_with fail
       generalize hWe:(((wr.alloc (.cells #[.int .i64 (p.1:Int),.int .i64 p.2] 145)).drewN nq).setCell ⟨F,p.1,none⟩ (.int .i64 m))=W at *;have hzW:wr.heap.size+1=W.heap.size:=by rw [←hWe];simp [World.setCell,World.drewN]
       clear hWe;refine(ways_any C ao cap p.1 m W hC (hcode.below (by rw [hFe];exact hB12.trans (hB.trans hWb'.out))) hp hmb.out.1 hmb.out.2).mono ?_;rintro e W2 ⟨v6,rfl,ho6,hb6⟩;have hat:=OwnsW.at ho6;have hz6:=hb6.size;have hF2:Hid (Bits W2 F (V.set p.1 m)):=hF1.out.keep (hb6.block F (by omega));have hq2':Hid (QAt W2 w2.heap.size v5 Q):=hq1'.out.below hb6;have hwl:=ways_len C[p.1] p.1 C.length m;generalize waysL C[p.1] p.1 C.length m=L at *;clear ho6
       go_wp2_with (refine wpList_append_queue _ rfl (.tmp 53) (.tmp 58) rfl rfl rfl hq2'.out hat (by omega) (by omega) ?_;intro v7 W3 hq7 hb7)
       go_roundg (3*sumR (V.set p.1 m)+(Q++L).length)
       case measure=>have:=hms.out;simp;omega
       case rel =>
        have hms2:=hms.out;have hz7:=hb7.size;exact⟨V.set p.1 m,Q++L,rfl,by simp;omega,hF2.out.keep (hb7.block F (by omega)),hq7,hI'.out,hB.trans (hWb'.out.trans ((hb6.mono (by omega)).trans (hb7.mono (by omega)))),by omega⟩
     ·have hq:QAt wr w2.heap.size (.slice (some ⟨g,o+2,none⟩) Q.length (cap2-1)) Q:=QAt.tail hq1 hq2 hg hgl hc'.out hf'.out (.inr rfl);have hc2:2≤cap2:=by omega
      go_wp2_with fail
      generalize (Value.slice (some ⟨g,o+2,none⟩) Q.length (cap2-1))=v5 at *
      go_quiet (fail)
      have hWk:∀k,k<wr.heap.size→((wr.alloc (.cells #[.int .i64 (p.1:Int),.int .i64 p.2] 145)).drewN nq).heap[k]?=wr.heap[k]?:=fun k hk=>Below.heap_alloc wr _ k hk
      have hWb:Below F wr ((wr.alloc (.cells #[.int .i64 (p.1:Int),.int .i64 p.2] 145)).drewN nq):=below_drewN ((Below.refl _ _).alloc (by omega) _) nq;have hWz:((wr.alloc (.cells #[.int .i64 (p.1:Int),.int .i64 p.2] 145)).drewN nq).heap.size=wr.heap.size+1:=by simp [World.drewN]
      by_cases he:m=x
      ·have he':(m==x)=true:=by simp [he]
       have hI':Hid (Inv C V Q):=inv_same hI (by rw [hx'.out,hm'.out];exact he);have hWk':Hid (∀k,k<wr.heap.size→((wr.alloc (.cells #[.int .i64 (p.1:Int),.int .i64 p.2] 145)).drewN nq).heap[k]?=wr.heap[k]?):=hWk;clear he hI hWk hWz
       go_wp2_with fail
       go_roundg (3*sumR V+Q.length)
       case measure=>omega
       case rel =>
        exact⟨V,Q,rfl,by omega,hF.keep (hWk'.out F hFl),hq.keep (by simp [World.drewN]) (fun k _ hk=>hWk'.out k hk),hI'.out,hB.trans hWb,by simp [World.drewN];omega⟩
      ·have he':(m==x)=false:=by simp [he]
       have hmb:Hid (Bd m∧0≤m):=by
        have hb:=meet_bd (hI.1.2 p.1) hs.2.1.1 hs.2.1.2;rw [hx'.out,hm'.out] at hb;exact⟨⟨by omega,hb.2⟩,hb.1⟩
       have hI':Hid (Inv C (V.set p.1 m) (Q++waysL C[p.1] p.1 C.length m)):=by
        have:=inv_less hw hI hp;rw [hx'.out,hm'.out] at this;exact this
       have hms:Hid (sumR (V.set p.1 m)<sumR V):=by
        have:=sum_merge hI.1 hs (by rw [hx'.out,hm'.out];exact he);rw [hx'.out,hm'.out] at this;exact this
       have hF1:Hid (Bits (((wr.alloc (.cells #[.int .i64 (p.1:Int),.int .i64 p.2] 145)).drewN nq).setCell ⟨F,p.1,none⟩ (.int .i64 m)) F (V.set p.1 m)):=(hF.keep (hWk F hFl)).set p.1 m;have hq1':Hid (QAt (((wr.alloc (.cells #[.int .i64 (p.1:Int),.int .i64 p.2] 145)).drewN nq).setCell ⟨F,p.1,none⟩ (.int .i64 m)) w2.heap.size v5 Q) :=
        (hq.keep (by rw [hWz];omega) (fun k _ hk=>hWk k hk)).keep (by simp [World.setCell]) (fun k hk _=>Below.heap_setCell _ _ _ _ (by dsimp only;omega))
       have hWb':Hid (Below F wr (((wr.alloc (.cells #[.int .i64 (p.1:Int),.int .i64 p.2] 145)).drewN nq).setCell ⟨F,p.1,none⟩ (.int .i64 m))):=hWb.setCell (by exact Nat.le_refl _) _;clear he hWk hF hq hWb hWz
       go_wp2_with fail
       generalize hWe:(((wr.alloc (.cells #[.int .i64 (p.1:Int),.int .i64 p.2] 145)).drewN nq).setCell ⟨F,p.1,none⟩ (.int .i64 m))=W at *;have hzW:wr.heap.size+1=W.heap.size:=by rw [←hWe];simp [World.setCell,World.drewN]
       clear hWe;refine(ways_any C ao cap p.1 m W hC (hcode.below (by rw [hFe];exact hB12.trans (hB.trans hWb'.out))) hp hmb.out.1 hmb.out.2).mono ?_;rintro e W2 ⟨v6,rfl,ho6,hb6⟩;have hat:=OwnsW.at ho6;have hz6:=hb6.size;have hF2:Hid (Bits W2 F (V.set p.1 m)):=hF1.out.keep (hb6.block F (by omega));have hq2':Hid (QAt W2 w2.heap.size v5 Q):=hq1'.out.below hb6;have hwl:=ways_len C[p.1] p.1 C.length m;generalize waysL C[p.1] p.1 C.length m=L at *;clear ho6
       go_wp2_with (refine wpList_append_queue _ rfl (.tmp 53) (.tmp 58) rfl rfl rfl hq2'.out hat (by omega) (by omega) ?_;intro v7 W3 hq7 hb7)
       go_roundg (3*sumR (V.set p.1 m)+(Q++L).length)
       case measure=>have:=hms.out;simp;omega
       case rel =>
        have hms2:=hms.out;have hz7:=hb7.size;exact⟨V.set p.1 m,Q++L,rfl,by simp;omega,hF2.out.keep (hb7.block F (by omega)),hq7,hI'.out,hB.trans (hWb'.out.trans ((hb6.mono (by omega)).trans (hb7.mono (by omega)))),by omega⟩
end Go.Proofs.YtgmkmeodimmdoaaGreatDoor.Eld
