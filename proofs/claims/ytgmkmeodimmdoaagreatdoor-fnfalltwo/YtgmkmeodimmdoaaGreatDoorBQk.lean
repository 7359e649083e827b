import Derived.Test.YtgmkmeodimmdoaaGreatDoorBQj
set_option maxHeartbeats 16000000
set_option maxRecDepth 20000
namespace Go.Proofs.YtgmkmeodimmdoaaGreatDoor.Eld
open Go.ChangeShapes Go.WideShapes Go.ChangeAt Go.RowKit Go.Joins
namespace SR
theorem l3Bit_any (r:Int) (w:World) (h0:0≤r) (h3:r≤3):Calls Tryz.prog 104 #[.int .i64 r] w fun e w'=>e=.returned (.int .i64 (bit5 r))∧Below w.heap.size w w':=by
 have h:r=0∨r=1∨r=2∨r=3:=by omega
 rcases h with rfl|rfl|rfl|rfl <;>
 ·go_enter Tryz.func104,Tryz.ntmps104
  go_wp2_with fail
  go_ret
  exact⟨rfl,(Below.refl _ _).alloc (Nat.le_refl _) _⟩
theorem bit_four {r:Int} (h0:0≤r) (h3:r≤3):bit5 r=1∨bit5 r=2∨bit5 r=4∨bit5 r=8:=by
 rcases (by omega:r=0∨r=1∨r=2∨r=3) with rfl|rfl|rfl|rfl
 ·exact .inl rfl
 ·exact .inr (.inl rfl)
 ·exact .inr (.inr (.inl rfl))
 ·exact .inr (.inr (.inr rfl))
def hasD (x r:Int):Bool:=x / bit5 r % 2==1
theorem has_same {f:Int} {i:Nat} (h0:0≤f) (h1:f≤15) (hi:i<4):hasD f i=hasF f i:=by
 have key:∀a:Fin 16,∀j:Fin 4,hasD (a.val:Int) (j.val:Int)=hasF (a.val:Int) j.val:=by decide +kernel
 have:=key ⟨f.toNat,by omega⟩ ⟨i,hi⟩;have e:((f.toNat:Nat):Int)=f:=by omega
 simpa [e] using this
theorem l3Has_any (x r:Int) (w:World) (hx0:0≤x) (hx:x≤15) (h0:0≤r) (h3:r≤3):Calls Tryz.prog 73 #[.int .i64 x,.int .i64 r] w fun e w'=>e=.returned (.bool (hasD x r))∧Below w.heap.size w w':=by
 go_enter Tryz.func73,Tryz.ntmps73
 go_wp2_with fail
 refine(l3Bit_any r _ h0 h3).mono ?_;rintro e w1 ⟨rfl,hb1⟩;have hH:Hid (hasD x r=(x / bit5 r % 2==1)):=rfl;have hb:=bit_four h0 h3;generalize bit5 r=b at *;rcases hb with rfl|rfl|rfl|rfl
 all_goals
  go_wp2_with fail
  go_ret
  exact⟨by rw [hH.out];first|rfl|(rw [Int.ediv_one];rfl),hb1⟩
end SR
theorem end_sum {d:RunD} (h:d.st=3):endB d=(((d.mail.length:Int)+(d.links.length:Int)+(d.wat.length:Int))==0):=by
 unfold endB;rw [if_pos h];generalize d.mail.length=a;generalize d.links.length=b;generalize d.wat.length=c;rw [Bool.eq_iff_iff];simp only [Bool.and_eq_true,beq_iff_eq]
 constructor
 ·rintro⟨h1,h2,h3⟩;omega
 ·intro h1;exact⟨by omega,by omega,by omega⟩
theorem end_sum0 {d:RunD} (h:d.st=3) (hm:d.mail=[]):endB d=(((d.links.length:Int)+(d.wat.length:Int))==0):=by
 rw [end_sum h,hm];simp
def specRB (d:RunD):Bool:=runB d&&okB d.wk d.wn
theorem specRB_eq (d:RunD):specRB d=(isRunB d.id&&(isPlaceB d.pl&&((d.slots.length==4)&&((decide (0≤d.full)&&decide (d.full≤15))&&(decide (d.mail.length≤12)&&((decide (1≤d.st)&&decide (d.st≤3))&&((decide (-1≤d.due)&&decide (d.due≤400))&&((decide (0≤d.tu)&&decide (d.tu≤9999))&&((List.range 4).all (slotQ d.full d.slots)&&(allOk d.mail&&(idsB d.id d.links&&(idsB d.id d.wat&&(okB d.wk d.wn&&endB d))))))))))))):=by
 unfold specRB runB slotsB mailB countsB;generalize isRunB d.id=a1;generalize isPlaceB d.pl=a2;generalize (d.slots.length==4)=a3;generalize decide (0≤d.full)=a4;generalize decide (d.full≤15)=a5;generalize decide (d.mail.length≤12)=a6;generalize decide (1≤d.st)=a7;generalize decide (d.st≤3)=a8;generalize decide (-1≤d.due)=a9;generalize decide (d.due≤400)=b1;generalize decide (0≤d.tu)=b2;generalize decide (d.tu≤9999)=b3;generalize (List.range 4).all (slotQ d.full d.slots)=b4;generalize allOk d.mail=b5;generalize idsB d.id d.links=b6;generalize idsB d.id d.wat=b7;generalize okB d.wk d.wn=b8;generalize endB d=b9
 ac_rfl
theorem specRunOk_any (S:Nat) (d:RunD) (q:RunP) (w:World) (hS:S≤w.heap.size) (hs:d.Short) (hk2:d.links.length≤q.k2) (hk3:d.wat.length≤q.k3) (hM:RunMem S w d q) :
  Calls Tryz.prog 75 #[d.val q] w fun e w'=>e=.returned (.bool (specRB d))∧Below w.heap.size w w':=by
 have hB0:Below w.heap.size w (w.alloc (.cells (d.cells q) 34)):=(Below.refl _ _).alloc (Nat.le_refl _) _;have hA0:RunAt (w.alloc (.cells (d.cells q) 34)) w.heap.size d q:=runAt_new w d q 34;have hS0:S≤(w.alloc (.cells (d.cells q) 34)).heap.size:=by simp;omega
 have hz0:w.heap.size<(w.alloc (.cells (d.cells q) 34)).heap.size:=by simp
 have hM0:RunMem S (w.alloc (.cells (d.cells q) 34)) d q:=hM.below (hB0.mono hS);have hE:Hid (specRB d=_):=specRB_eq d;replace hs:Hid d.Short:=hs;replace hk2:Hid (d.links.length≤q.k2):=hk2;replace hk3:Hid (d.wat.length≤q.k3):=hk3;clear hM
 go_enter Tryz.func75,Tryz.ntmps75
 go_wp2_with fail
 generalize (w.alloc (.cells (d.cells q) 34))=w0 at *;have hA0':=hA0;obtain⟨c0,c1,c2,c3,c4,c5,c6,c7,c8,c9,c10,c11,c12⟩:=hA0'
 cases h1:isRunB d.id with
 |false =>
  have e1:(decide (1≤d.id)&&decide (d.id≤6))=false:=h1
  go_wp2_with (first|(go_at_call 40;refine(l6In_any _ _ _ _).mono ?_;rintro e w1 ⟨rfl,hw1⟩;rw [hw1];clear hw1 w1;first|rw [e1]|rw [e4]|rw [e6]|rw [e7]|rw [e8])|(go_at_call 108;refine(l2To_any _ _).mono ?_;rintro e w1 ⟨rfl,hw1⟩;rw [hw1];clear hw1 w1;rw [e2]))
  go_ret
  exact⟨by rw [hE.out,h1];rfl,hB0⟩
 |true =>
  have e1:(decide (1≤d.id)&&decide (d.id≤6))=true:=h1
  cases h2:isPlaceB d.pl with
  |false =>
   have e2:isPlaceB d.pl=false:=h2
   go_wp2_with (first|(go_at_call 40;refine(l6In_any _ _ _ _).mono ?_;rintro e w1 ⟨rfl,hw1⟩;rw [hw1];clear hw1 w1;first|rw [e1]|rw [e4]|rw [e6]|rw [e7]|rw [e8])|(go_at_call 108;refine(l2To_any _ _).mono ?_;rintro e w1 ⟨rfl,hw1⟩;rw [hw1];clear hw1 w1;rw [e2]))
   go_ret
   exact⟨by rw [hE.out,h1,h2];rfl,hB0⟩
  |true =>
   have e2:isPlaceB d.pl=true:=h2
   cases h3:(d.slots.length==4) with
   |false =>
    have x3:((d.slots.length:Int) != 4)=true:=by simp at h3 ⊢;omega
    go_wp2_with (first|(go_at_call 40;refine(l6In_any _ _ _ _).mono ?_;rintro e w1 ⟨rfl,hw1⟩;rw [hw1];clear hw1 w1;first|rw [e1]|rw [e4]|rw [e6]|rw [e7]|rw [e8])|(go_at_call 108;refine(l2To_any _ _).mono ?_;rintro e w1 ⟨rfl,hw1⟩;rw [hw1];clear hw1 w1;rw [e2]))
    go_ret
    exact⟨by rw [hE.out,h1,h2,h3];rfl,hB0⟩
   |true =>
    have x3:((d.slots.length:Int) != 4)=false:=by simp at h3 ⊢;omega
    cases h4:(decide (0≤d.full)&&decide (d.full≤15)) with
    |false =>
     have e4:(decide (0≤d.full)&&decide (d.full≤15))=false:=h4
     go_wp2_with (first|(go_at_call 40;refine(l6In_any _ _ _ _).mono ?_;rintro e w1 ⟨rfl,hw1⟩;rw [hw1];clear hw1 w1;first|rw [e1]|rw [e4]|rw [e6]|rw [e7]|rw [e8])|(go_at_call 108;refine(l2To_any _ _).mono ?_;rintro e w1 ⟨rfl,hw1⟩;rw [hw1];clear hw1 w1;rw [e2]))
     go_ret
     exact⟨by rw [hE.out,h1,h2,h3,h4];rfl,hB0⟩
    |true =>
     have e4:(decide (0≤d.full)&&decide (d.full≤15))=true:=h4
     cases h5:decide (d.mail.length≤12) with
     |false =>
      have x5:(12:Int)<(d.mail.length:Int):=by simp at h5;omega
      go_wp2_with (first|(go_at_call 40;refine(l6In_any _ _ _ _).mono ?_;rintro e w1 ⟨rfl,hw1⟩;rw [hw1];clear hw1 w1;first|rw [e1]|rw [e4]|rw [e6]|rw [e7]|rw [e8])|(go_at_call 108;refine(l2To_any _ _).mono ?_;rintro e w1 ⟨rfl,hw1⟩;rw [hw1];clear hw1 w1;rw [e2]))
      go_ret
      exact⟨by rw [hE.out,h1,h2,h3,h4,h5];rfl,hB0⟩
     |true =>
      have x5:¬(12:Int)<(d.mail.length:Int):=by simp at h5;omega
      cases h6:(decide (1≤d.st)&&decide (d.st≤3)) with
      |false =>
       have e6:(decide (1≤d.st)&&decide (d.st≤3))=false:=h6
       go_wp2_with (first|(go_at_call 40;refine(l6In_any _ _ _ _).mono ?_;rintro e w1 ⟨rfl,hw1⟩;rw [hw1];clear hw1 w1;first|rw [e1]|rw [e4]|rw [e6]|rw [e7]|rw [e8])|(go_at_call 108;refine(l2To_any _ _).mono ?_;rintro e w1 ⟨rfl,hw1⟩;rw [hw1];clear hw1 w1;rw [e2]))
       go_ret
       exact⟨by rw [hE.out,h1,h2,h3,h4,h5,h6];rfl,hB0⟩
      |true =>
       have e6:(decide (1≤d.st)&&decide (d.st≤3))=true:=h6
       cases h7:(decide (-1≤d.due)&&decide (d.due≤400)) with
       |false =>
        have e7:(decide (-1≤d.due)&&decide (d.due≤400))=false:=h7
        go_wp2_with (first|(go_at_call 40;refine(l6In_any _ _ _ _).mono ?_;rintro e w1 ⟨rfl,hw1⟩;rw [hw1];clear hw1 w1;first|rw [e1]|rw [e4]|rw [e6]|rw [e7]|rw [e8])|(go_at_call 108;refine(l2To_any _ _).mono ?_;rintro e w1 ⟨rfl,hw1⟩;rw [hw1];clear hw1 w1;rw [e2]))
        go_ret
        exact⟨by rw [hE.out,h1,h2,h3,h4,h5,h6,h7];rfl,hB0⟩
       |true =>
        have e7:(decide (-1≤d.due)&&decide (d.due≤400))=true:=h7
        cases h8:(decide (0≤d.tu)&&decide (d.tu≤9999)) with
        |false =>
         have e8:(decide (0≤d.tu)&&decide (d.tu≤9999))=false:=h8
         go_wp2_with (first|(go_at_call 40;refine(l6In_any _ _ _ _).mono ?_;rintro e w1 ⟨rfl,hw1⟩;rw [hw1];clear hw1 w1;first|rw [e1]|rw [e4]|rw [e6]|rw [e7]|rw [e8])|(go_at_call 108;refine(l2To_any _ _).mono ?_;rintro e w1 ⟨rfl,hw1⟩;rw [hw1];clear hw1 w1;rw [e2]))
         go_ret
         exact⟨by rw [hE.out,h1,h2,h3,h4,h5,h6,h7,h8];rfl,hB0⟩
        |true =>
         have e8:(decide (0≤d.tu)&&decide (d.tu≤9999))=true:=h8
         go_wp2_with (first|(go_at_call 40;refine(l6In_any _ _ _ _).mono ?_;rintro e w1 ⟨rfl,hw1⟩;rw [hw1];clear hw1 w1;first|rw [e1]|rw [e4]|rw [e6]|rw [e7]|rw [e8])|(go_at_call 108;refine(l2To_any _ _).mono ?_;rintro e w1 ⟨rfl,hw1⟩;rw [hw1];clear hw1 w1;rw [e2]))
         have hfb:Hid (0≤d.full∧d.full≤15):=by
          show _∧_;simpa using h4
         have hE2:Hid (specRB d=((List.range 4).all (slotQ d.full d.slots)&&(allOk d.mail&&(idsB d.id d.links&&(idsB d.id d.wat&&(okB d.wk d.wn&&endB d)))))):=by
          show _=_;rw [hE.out,h1,h2,h3,h4,h5,h6,h7,h8];rfl
         have hl4:d.slots.length=4:=by simpa using h3
         replace hl4:Hid (d.slots.length=4):=hl4;clear c0 c1 c4 c5 c6 c7 c8 c9 c10 c11 c12 e1 e2 e4 e6 e7 e8 x3 x5 h1 h2 h3 h4 h5 h6 h7 h8 hE;obtain⟨ao,cap,hv,hc⟩:=hM0.m0;have hv':Value.slice q.a0 d.slots.length q.k0=.slice ao d.slots.length cap:=hv
         injection hv' with r1 _ r3
         rw [r1,r3,hl4.out] at c2;rcases hc with hL0|⟨b,o,rfl,hb,hc⟩
         ·have:=hl4.out;rw [hL0] at this;simp at this
         replace hc:Hid (∀i (h:i<d.slots.length),ValAt w0 b (o+i*2) d.slots[i]):=hc;have hbw:b<w0.heap.size:=by omega
         clear hv r1 r3;generalize hfe:d.full=f at *;generalize hLe:d.slots=L at *;replace hfe:Hid (d.full=f):=hfe;replace hLe:Hid (d.slots=L):=hLe
         go_loopw [3] (fun i wr=>∃k:Nat,k≤4∧i=.int .i64 k∧(∀j,j<k→slotQ f L j=true)∧Below w0.heap.size w0 wr) (fun i _=>4-(intOf i).toNat)
         case atStart=>exact⟨0,Nat.zero_le _,rfl,fun j hj=>by omega,Below.refl _ _⟩
         case round =>
          obtain⟨k,hk,rfl,hU,hBr⟩:=hrel;have hzr:=hBr.size;replace hU:Hid (∀j,j<k→slotQ f L j=true):=hU;have c2r:wr.cell? ⟨w.heap.size,2,none⟩=some (.slice (some ⟨b,o,none⟩) 4 cap):=(hBr.cell (p:=⟨w.heap.size,2,none⟩) hz0).trans c2;have c3r:wr.cell? ⟨w.heap.size,3,none⟩=some (.int .i64 f):=(hBr.cell (p:=⟨w.heap.size,3,none⟩) hz0).trans c3;by_cases hlt:k<4
          ·have g2:(k:Int)<4:=by omega
           have hkl:k<L.length:=by have:=hl4.out;omega
           obtain⟨v0,v1⟩:=hc.out k hkl;have d0:wr.cell? ⟨b,o+k*2,none⟩=some (.int .i64 L[k].1):=(hBr.cell (p:=⟨b,o+k*2,none⟩) hbw).trans v0;have d1:wr.cell? ⟨b,o+k*2+1,none⟩=some (.int .i64 L[k].2):=(hBr.cell (p:=⟨b,o+k*2+1,none⟩) hbw).trans v1;have hq:Hid (slotQ f L k=(okB L[k].1 L[k].2&&(hasF f k||(L[k].1==0&&L[k].2==0)))):=by
            show slotQ f L k=_;unfold slotQ;rw [show L.getD k (0,0)=L[k] by simp [List.getD_eq_getElem?_getD,List.getElem?_eq_getElem hkl]]
           have hno:Hid (slotQ f L k=false→specRB d=false):=fun h=>by
            have:(List.range 4).all (slotQ f L)=false:=by
             rw [Bool.eq_false_iff];intro h';rw [List.all_eq_true] at h';rw [h' k (List.mem_range.2 hlt)] at h
             cases h
            rw [hE2.out,this];rfl
           have hyes:Hid (slotQ f L k=true→∀j,j<k+1→slotQ f L j=true):=fun h j hj=>by
            by_cases e:j<k
            ·exact hU.out j e
            ·have:j=k:=by omega
             subst this;exact h
           have hhas:Hid (∀W:World,Calls Tryz.prog 73 #[.int .i64 f,.int .i64 k] W fun e w'=>e=.returned (.bool (hasF f k))∧Below W.heap.size W w'):=fun W=>by
            have c:=SR.l3Has_any f k W hfb.out.1 hfb.out.2 (by omega) (by omega);rw [SR.has_same hfb.out.1 hfb.out.2 hlt] at c;exact c
           clear v0 v1;generalize L[k].1=x at *;generalize L[k].2=y at *;generalize hasF f k=hf at *
           go_wp2_with fail
           refine(specOk_any x y _).mono ?_;rintro e w1 ⟨rfl,hb1⟩;have hz1:=hb1.size;have hB1:Below w0.heap.size w0 w1:=hBr.trans (hb1.mono hzr);have c21:w1.cell? ⟨w.heap.size,2,none⟩=some (.slice (some ⟨b,o,none⟩) 4 cap):=(hB1.cell (p:=⟨w.heap.size,2,none⟩) hz0).trans c2;have c31:w1.cell? ⟨w.heap.size,3,none⟩=some (.int .i64 f):=(hB1.cell (p:=⟨w.heap.size,3,none⟩) hz0).trans c3;have d01:w1.cell? ⟨b,o+k*2,none⟩=some (.int .i64 x):=(hb1.cell (p:=⟨b,o+k*2,none⟩) (by show b<_;omega)).trans d0;have d11:w1.cell? ⟨b,o+k*2+1,none⟩=some (.int .i64 y):=(hb1.cell (p:=⟨b,o+k*2+1,none⟩) (by show b<_;omega)).trans d1;clear d0 d1 c2r c3r hb1
           cases hob:okB x y with
           |false =>
            have hfq:Hid (specRB d=false):=hno.out (by rw [hq.out,hob];rfl)
            go_wp2_with fail
            go_ret
            exact⟨by rw [hfq.out];rfl,hB0.trans (hB1.mono (by omega))⟩
           |true =>
            go_wp2_with fail
            refine(hhas.out _).mono ?_;rintro e w2 ⟨rfl,hb2⟩;have hz2:=hb2.size;have hB2:Below w0.heap.size w0 w2:=hB1.trans (hb2.mono (by omega));have c22:w2.cell? ⟨w.heap.size,2,none⟩=some (.slice (some ⟨b,o,none⟩) 4 cap):=(hB2.cell (p:=⟨w.heap.size,2,none⟩) hz0).trans c2;have d02:w2.cell? ⟨b,o+k*2,none⟩=some (.int .i64 x):=(hb2.cell (p:=⟨b,o+k*2,none⟩) (by show b<_;omega)).trans d01;have d12:w2.cell? ⟨b,o+k*2+1,none⟩=some (.int .i64 y):=(hb2.cell (p:=⟨b,o+k*2+1,none⟩) (by show b<_;omega)).trans d11;clear hb2 c21 c31 d01 d11
            cases hf with
            |true =>
             have hyq:Hid (∀j,j<k+1→slotQ f L j=true):=hyes.out (by rw [hq.out,hob];rfl)
             go_wp2_with fail
             go_roundw
             case rel=>exact⟨k+1,by omega,by go_num,hyq.out,hB2⟩
             case measure=>simp [intOf];omega
            |false =>
             cases hx0:(x==0) with
             |false =>
              have hfq:Hid (specRB d=false):=hno.out (by rw [hq.out,hob,hx0];rfl)
              go_wp2_with fail
              go_ret
              exact⟨by rw [hfq.out];rfl,hB0.trans (hB2.mono (by omega))⟩
             |true =>
              cases hy0:(y==0) with
              |false =>
               have hfq:Hid (specRB d=false):=hno.out (by rw [hq.out,hob,hx0,hy0];rfl)
               go_wp2_with fail
               go_ret
               exact⟨by rw [hfq.out];rfl,hB0.trans (hB2.mono (by omega))⟩
              |true =>
               have hyq:Hid (∀j,j<k+1→slotQ f L j=true):=hyes.out (by rw [hq.out,hob,hx0,hy0];rfl)
               go_wp2_with fail
               go_roundw
               case rel=>exact⟨k+1,by omega,by go_num,hyq.out,hB2⟩
               case measure=>simp [intOf];omega
          ·have e:k=4:=by omega
           subst e;have hE3:Hid (specRB d=(allOk d.mail&&(idsB d.id d.links&&(idsB d.id d.wat&&(okB d.wk d.wn&&endB d))))):=by
            show _=_;have:(List.range 4).all (slotQ f L)=true:=by
             rw [List.all_eq_true];exact fun j hj=>hU.out j (List.mem_range.1 hj)
            rw [hE2.out,this];rfl
           go_wp2_with fail
           obtain⟨ao2,cap2,hv2,hc2⟩:=hM0.m1;have hv2':Value.slice q.a1 d.mail.length q.k1=.slice ao2 d.mail.length cap2:=hv2
           injection hv2' with r1 _ r3
           clear hv2 c2 c3 c2r c3r hc hbw hb hl4 hE2 hU;have hlm:d.mail.length≤1048576:=hs.out.s1;rcases hc2 with hL0|⟨b2,o2,rfl,hb2,hc2⟩
           ·have hE4:Hid (specRB d=(idsB d.id d.links&&(idsB d.id d.wat&&(okB d.wk d.wn&&endB d)))):=by
             show _=_;rw [hE3.out,hL0];rfl
            have hn0:((d.mail.length:Nat):Int)=0:=by rw [hL0];rfl
            replace hL0:Hid (d.mail=[]):=hL0;clear hE3 r1 r3;have hAW:=hA0.below hz0 hBr;have hMW:=hM0.below (hBr.mono hS0);have hSW:S≤wr.heap.size:=by have:=hBr.size;omega
            have hBX:=hBr;obtain⟨c0,c1,c2,c3,c4,c5,c6,c7,c8,c9,c10,c11,c12⟩:=hAW;refine wp_loop_rounds 1 ?_;rw [rounds_succ]
            go_wp2_with fail
            refine(l11Ids_any S d.id d.links q.a2 q.k2 _ hSW hs.out.s2 hk2.out hMW.m2).mono ?_;rintro e u1 ⟨rfl,hb1⟩;clear c0 c1 c2 c3 c4 c5 c6 c7 c8 c9 c10 c11 c12;have hz1:=hb1.size;have hB1:Below w0.heap.size w0 u1:=hBX.trans (hb1.mono (by have:=hBX.size;omega));have hA1:=hA0.below hz0 hB1;have hM1:=hM0.below (hB1.mono hS0);have hS1:S≤u1.heap.size:=by have:=hB1.size;omega
            clear hb1
            cases i1:idsB d.id d.links with
            |false =>
             obtain⟨c0,c1,c2,c3,c4,c5,c6,c7,c8,c9,c10,c11,c12⟩:=hA1
             go_wp2_with fail
             go_ret
             exact⟨by rw [hE4.out,i1];rfl,hB0.trans (hB1.mono (by omega))⟩
            |true =>
             obtain⟨c0,c1,c2,c3,c4,c5,c6,c7,c8,c9,c10,c11,c12⟩:=hA1
             go_wp2_with fail
             refine(l11Ids_any S d.id d.wat q.a3 q.k3 _ hS1 hs.out.s3 hk3.out hM1.m3).mono ?_;rintro e u2 ⟨rfl,hb2⟩;clear c0 c1 c2 c3 c4 c5 c6 c7 c8 c9 c10 c11 c12;have hz2:=hb2.size;have hB2:Below w0.heap.size w0 u2:=hB1.trans (hb2.mono (by have:=hB1.size;omega));have hA2:=hA0.below hz0 hB2;have hM2:=hM0.below (hB2.mono hS0);have hS2:S≤u2.heap.size:=by have:=hB2.size;omega
             clear hb2
             cases i2:idsB d.id d.wat with
             |false =>
              obtain⟨c0,c1,c2,c3,c4,c5,c6,c7,c8,c9,c10,c11,c12⟩:=hA2
              go_wp2_with fail
              go_ret
              exact⟨by rw [hE4.out,i1,i2];rfl,hB0.trans (hB2.mono (by omega))⟩
             |true =>
              obtain⟨c0,c1,c2,c3,c4,c5,c6,c7,c8,c9,c10,c11,c12⟩:=hA2
              go_wp2_with fail
              refine(specOk_any d.wk d.wn _).mono ?_;rintro e u3 ⟨rfl,hb3⟩;clear c0 c1 c2 c3 c4 c5 c6 c7 c8 c9 c10 c11 c12;have hz3:=hb3.size;have hB3:Below w0.heap.size w0 u3:=hB2.trans (hb3.mono (by have:=hB2.size;omega));have hA3:=hA0.below hz0 hB3;have hM3:=hM0.below (hB3.mono hS0);have hS3:S≤u3.heap.size:=by have:=hB3.size;omega
              clear hb3;have hBe:Below w.heap.size w u3:=hB0.trans (hB3.mono (by omega))
              cases i3:okB d.wk d.wn with
              |false =>
               obtain⟨c0,c1,c2,c3,c4,c5,c6,c7,c8,c9,c10,c11,c12⟩:=hA3
               go_wp2_with fail
               go_ret
               exact⟨by rw [hE4.out,i1,i2,i3];rfl,hBe⟩
              |true =>
               have hE5:Hid (specRB d=endB d):=by show _=_;rw [hE4.out,i1,i2,i3];rfl
               have l1:d.mail.length≤1048576:=hs.out.s1;have l2:d.links.length≤1048576:=hs.out.s2;have l3:d.wat.length≤1048576:=hs.out.s3;obtain⟨c0,c1,c2,c3,c4,c5,c6,c7,c8,c9,c10,c11,c12⟩:=hA3;by_cases i4:d.st=3
               ·have i4':(d.st==3)=true:=by simp [i4]
                have hE6:Hid (endB d=(((d.links.length:Int)+(d.wat.length:Int))==0)):=end_sum0 i4 hL0.out;clear i4
                go_wp2_with fail
                go_ret
                exact⟨by rw [hE5.out,hE6.out];rfl,hBe⟩
               ·have i4':(d.st==3)=false:=by simp [i4]
                have hE6:Hid (endB d=((d.wk==0)&&(d.wn==0))):=by
                 show _=_;unfold endB;rw [if_neg i4]
                clear i4
                cases i5:(d.wk==0) with
                |false =>
                 go_wp2_with fail
                 go_ret
                 exact⟨by rw [hE5.out,hE6.out,i5];rfl,hBe⟩
                |true =>
                 cases i6:(d.wn==0) with
                 |false =>
                  go_wp2_with fail
                  go_ret
                  exact⟨by rw [hE5.out,hE6.out,i5,i6];rfl,hBe⟩
                 |true =>
                  go_wp2_with fail
                  go_ret
                  exact⟨by rw [hE5.out,hE6.out,i5,i6];rfl,hBe⟩
           replace hc2:Hid (∀i (h:i<d.mail.length),ValAt w0 b2 (o2+i*2) d.mail[i]):=hc2;have hbw2:b2<w0.heap.size:=by omega
           have c4:=hA0.c4;rw [r1,r3] at c4;replace r1:=(show Hid _ from r1);replace r3:=(show Hid _ from r3);obtain⟨M,hMe⟩:∃M,M=d.mail:=⟨_,rfl⟩;rw [←hMe] at c4 hc2 hE3 hlm;replace hMe:Hid (M=d.mail):=hMe
           go_loopw [4] (fun i wz=>∃k:Nat,k≤M.length∧i=.int .i64 k∧(∀j (h:j<M.length),j<k→okB M[j].1 M[j].2=true)∧Below w0.heap.size w0 wz) (fun i _=>M.length-(intOf i).toNat)
           case atStart=>exact⟨0,Nat.zero_le _,rfl,fun j _ hj=>by omega,hBr⟩
           case round =>
            clear hBr hzr;obtain⟨k,hk,rfl,hU2,hBz⟩:=hrel;have hzz:=hBz.size;replace hU2:Hid (∀j (h:j<M.length),j<k→okB M[j].1 M[j].2=true):=hU2;by_cases hlt:k<M.length
            ·have c4z:wr.cell? ⟨w.heap.size,4,none⟩=some (.slice (some ⟨b2,o2,none⟩) M.length cap2):=(hBz.cell (p:=⟨w.heap.size,4,none⟩) hz0).trans c4;have g2:(k:Int)<(M.length:Int):=by omega
             obtain⟨v0,v1⟩:=hc2.out k hlt;have d0:wr.cell? ⟨b2,o2+k*2,none⟩=some (.int .i64 M[k].1):=(hBz.cell (p:=⟨b2,o2+k*2,none⟩) hbw2).trans v0;have d1:wr.cell? ⟨b2,o2+k*2+1,none⟩=some (.int .i64 M[k].2):=(hBz.cell (p:=⟨b2,o2+k*2+1,none⟩) hbw2).trans v1;have hno:Hid (okB M[k].1 M[k].2=false→specRB d=false):=fun h=>by rw [hE3.out,allOk_no hlt h];rfl
             have hyes:Hid (okB M[k].1 M[k].2=true→∀j (h:j<M.length),j<k+1→okB M[j].1 M[j].2=true):=fun h j hjl hj=>by
              by_cases e:j<k
              ·exact hU2.out j hjl e
              ·have:j=k:=by omega
               subst this;exact h
             clear v0 v1 c4;generalize M[k].1=x at *;generalize M[k].2=y at *
             go_wp2_with fail
             refine(specOk_any x y _).mono ?_;rintro e u1 ⟨rfl,hb1⟩;have hB1:Below w0.heap.size w0 u1:=hBz.trans (hb1.mono (by omega));clear d0 d1 c4z hb1
             cases hob:okB x y with
             |false =>
              have hfq:Hid (specRB d=false):=hno.out hob
              go_wp2_with fail
              go_ret
              exact⟨by rw [hfq.out];rfl,hB0.trans (hB1.mono (by omega))⟩
             |true =>
              have hyq:=(show Hid _ from hyes.out hob)
              go_wp2_with fail
              go_roundw
              case rel=>exact⟨k+1,by omega,by go_num,hyq.out,hB1⟩
              case measure=>simp [intOf];omega
            ·have e:k=M.length:=by omega
             subst e;have hE4:Hid (specRB d=(idsB d.id d.links&&(idsB d.id d.wat&&(okB d.wk d.wn&&endB d)))):=by
              show _=_;rw [hE3.out,allOk_yes (fun j h=>hU2.out j h h)];rfl
             clear hE3 hU2 c4 hc2;have hlen:Hid (M.length=d.mail.length):=by show _=_;rw [hMe.out]
             have hnl:¬(M.length:Int)<(d.mail.length:Int):=by have:=hlen.out;omega
             obtain⟨mm,hmm⟩:∃mm,mm=M.length:=⟨_,rfl⟩;have hAW:=hA0.below hz0 hBz;have hMW:=hM0.below (hBz.mono hS0);have hSW:S≤wr.heap.size:=by have:=hBz.size;omega
             have hBX:=hBz;obtain⟨c0,c1,c2,c3,c4,c5,c6,c7,c8,c9,c10,c11,c12⟩:=hAW
             go_wp2_with fail
             refine(l11Ids_any S d.id d.links q.a2 q.k2 _ hSW hs.out.s2 hk2.out hMW.m2).mono ?_;rintro e u1 ⟨rfl,hb1⟩;clear c0 c1 c2 c3 c4 c5 c6 c7 c8 c9 c10 c11 c12;have hz1:=hb1.size;have hB1:Below w0.heap.size w0 u1:=hBX.trans (hb1.mono (by have:=hBX.size;omega));have hA1:=hA0.below hz0 hB1;have hM1:=hM0.below (hB1.mono hS0);have hS1:S≤u1.heap.size:=by have:=hB1.size;omega
             clear hb1
             cases i1:idsB d.id d.links with
             |false =>
              obtain⟨c0,c1,c2,c3,c4,c5,c6,c7,c8,c9,c10,c11,c12⟩:=hA1
              go_wp2_with fail
              go_ret
              exact⟨by rw [hE4.out,i1];rfl,hB0.trans (hB1.mono (by omega))⟩
             |true =>
              obtain⟨c0,c1,c2,c3,c4,c5,c6,c7,c8,c9,c10,c11,c12⟩:=hA1
              go_wp2_with fail
              refine(l11Ids_any S d.id d.wat q.a3 q.k3 _ hS1 hs.out.s3 hk3.out hM1.m3).mono ?_;rintro e u2 ⟨rfl,hb2⟩;clear c0 c1 c2 c3 c4 c5 c6 c7 c8 c9 c10 c11 c12;have hz2:=hb2.size;have hB2:Below w0.heap.size w0 u2:=hB1.trans (hb2.mono (by have:=hB1.size;omega));have hA2:=hA0.below hz0 hB2;have hM2:=hM0.below (hB2.mono hS0);have hS2:S≤u2.heap.size:=by have:=hB2.size;omega
              clear hb2
              cases i2:idsB d.id d.wat with
              |false =>
               obtain⟨c0,c1,c2,c3,c4,c5,c6,c7,c8,c9,c10,c11,c12⟩:=hA2
               go_wp2_with fail
               go_ret
               exact⟨by rw [hE4.out,i1,i2];rfl,hB0.trans (hB2.mono (by omega))⟩
              |true =>
               obtain⟨c0,c1,c2,c3,c4,c5,c6,c7,c8,c9,c10,c11,c12⟩:=hA2
               go_wp2_with fail
               refine(specOk_any d.wk d.wn _).mono ?_;rintro e u3 ⟨rfl,hb3⟩;clear c0 c1 c2 c3 c4 c5 c6 c7 c8 c9 c10 c11 c12;have hz3:=hb3.size;have hB3:Below w0.heap.size w0 u3:=hB2.trans (hb3.mono (by have:=hB2.size;omega));have hA3:=hA0.below hz0 hB3;have hM3:=hM0.below (hB3.mono hS0);have hS3:S≤u3.heap.size:=by have:=hB3.size;omega
               clear hb3;have hBe:Below w.heap.size w u3:=hB0.trans (hB3.mono (by omega))
               cases i3:okB d.wk d.wn with
               |false =>
                obtain⟨c0,c1,c2,c3,c4,c5,c6,c7,c8,c9,c10,c11,c12⟩:=hA3
                go_wp2_with fail
                go_ret
                exact⟨by rw [hE4.out,i1,i2,i3];rfl,hBe⟩
               |true =>
                have hE5:Hid (specRB d=endB d):=by show _=_;rw [hE4.out,i1,i2,i3];rfl
                have l1:d.mail.length≤1048576:=hs.out.s1;have l2:d.links.length≤1048576:=hs.out.s2;have l3:d.wat.length≤1048576:=hs.out.s3;obtain⟨c0,c1,c2,c3,c4,c5,c6,c7,c8,c9,c10,c11,c12⟩:=hA3;by_cases i4:d.st=3
                ·have i4':(d.st==3)=true:=by simp [i4]
                 have hE6:Hid (endB d=(((d.mail.length:Int)+(d.links.length:Int)+(d.wat.length:Int))==0)):=end_sum i4;clear i4
                 go_wp2_with fail
                 go_ret
                 exact⟨by rw [hE5.out,hE6.out];rfl,hBe⟩
                ·have i4':(d.st==3)=false:=by simp [i4]
                 have hE6:Hid (endB d=((d.wk==0)&&(d.wn==0))):=by
                  show _=_;unfold endB;rw [if_neg i4]
                 clear i4
                 cases i5:(d.wk==0) with
                 |false =>
                  go_wp2_with fail
                  go_ret
                  exact⟨by rw [hE5.out,hE6.out,i5];rfl,hBe⟩
                 |true =>
                  cases i6:(d.wn==0) with
                  |false =>
                   go_wp2_with fail
                   go_ret
                   exact⟨by rw [hE5.out,hE6.out,i5,i6];rfl,hBe⟩
                  |true =>
                   go_wp2_with fail
                   go_ret
                   exact⟨by rw [hE5.out,hE6.out,i5,i6];rfl,hBe⟩
open Go.ChangeShapes Go.WideShapes Go.ChangeAt Go.RowKit Go.Joins
def fitQ (kind k:Int):Bool:=(kind==0)||(k==kind)
def firstP (kind:Int):List (Int×Int)→Option Nat
 |[]=>none
 |v::M=>if fitQ kind v.1 then some 0 else (firstP kind M).map (·+1)
theorem firstP_some {kind:Int}:∀{M:List (Int×Int)} {k:Nat} (hk:k<M.length),(∀j (h:j<M.length),j<k→fitQ kind M[j].1=false)→fitQ kind M[k].1=true→firstP kind M=some k
 |[],k,hk,_,_=>absurd hk (Nat.not_lt_zero _)
 |v::M,0,_,_,h=>by
  have h':fitQ kind v.1=true:=h;unfold firstP;rw [if_pos h']
 |v::M,k+1,hk,hu,h=>by
  have h0:fitQ kind v.1=false:=hu 0 (by simp) (by omega);have hk':k<M.length:=by simpa using hk
  have ih:=firstP_some hk' (fun j hj hjk=>hu (j+1) (by simp;omega) (by omega)) h;unfold firstP;rw [if_neg (by rw [h0];simp),ih];rfl
theorem firstP_none {kind:Int}:∀{M:List (Int×Int)},(∀j (h:j<M.length),fitQ kind M[j].1=false)→firstP kind M=none
 |[],_=>rfl
 |v::M,hu=>by
  have h0:fitQ kind v.1=false:=hu 0 (by simp);have ih:=firstP_none (M:=M) (fun j hj=>hu (j+1) (by simp;omega));unfold firstP;rw [if_neg (by rw [h0];simp),ih];rfl
def firstI (kind:Int) (M:List (Int×Int)):Int:=match firstP kind M with
 |some k=>k
 |none => -1
def sFirst (d:RunD) (kind:Int):Int×Bool:=if specRB d=true∧(0≤kind∧kind≤3) then (match firstP kind d.mail with|some k=>((k:Int),true)|none=>(0,false)) else (0,false)
end Go.Proofs.YtgmkmeodimmdoaaGreatDoor.Eld
