import Derived.Test.YtgmkmeodimmdoaaGreatDoorBQh
import Derived.Deep.CutRange
set_option maxHeartbeats 8000000
set_option maxRecDepth 20000
namespace Go.Proofs.YtgmkmeodimmdoaaGreatDoor.Eld
open Go.ChangeShapes Go.WideShapes Go.ChangeAt Go.RowKit Go.Joins
theorem bit16 (W:World):Calls Tryz.prog 168 #[.int .i64 4] W fun e w'=>e=.returned (.int .i64 16)∧w'=W:=slotBit5_any 4 W (by omega) (by omega)
abbrev Sev3 (B g:Nat) (f x y:Int) (W w':World):Prop:=w'.cell? ⟨B,3,none⟩=some (.int .i64 f)∧w'.cell? ⟨g,0,none⟩=some (.int .i64 x)∧w'.cell? ⟨g,1,none⟩=some (.int .i64 y)∧Below W.heap.size W w'
def hasF (f:Int) (i:Nat):Bool:=!(bits .and .i64 f (bit5 (i:Int))==0)
def slotQ (f:Int) (L:List (Int×Int)) (i:Nat):Bool:=okB (L.getD i (0,0)).1 (L.getD i (0,0)).2&&(hasF f i||((L.getD i (0,0)).1==0&&(L.getD i (0,0)).2==0))
def slotsB (d:RunD):Bool:=(d.slots.length==4)&&((decide (0≤d.full)&&decide (d.full≤15))&&(List.range 4).all (slotQ d.full d.slots))
theorem slotsOk_any (S:Nat) (d:RunD) (q:RunP) (w:World) (hS:S≤w.heap.size) (h:Vals S w (d.v0 q) d.slots) :
  Calls Tryz.prog 136 #[d.val q] w fun e w'=>e=.returned (.bool (slotsB d))∧Below w.heap.size w w':=by
 have hb0:Below w.heap.size w (w.alloc (.cells (d.cells q) 34)):=(Below.refl _ _).alloc (Nat.le_refl _) _;have c02:(w.alloc (.cells (d.cells q) 34)).cell? ⟨w.heap.size,2,none⟩=some (.slice q.a0 d.slots.length q.k0):=(runAt_new w d q 34).c2;have c03:(w.alloc (.cells (d.cells q) 34)).cell? ⟨w.heap.size,3,none⟩=some (.int .i64 d.full):=(runAt_new w d q 34).c3;have hz0:w.heap.size<(w.alloc (.cells (d.cells q) 34)).heap.size:=by simp
 have quiet:Hid (∀W n,Below w.heap.size w W→Below w.heap.size w (W.drewN n)):=fun W n hW=>hW.trans ⟨rfl,rfl,rfl,Nat.le_refl _,fun _ _=>rfl⟩
 by_cases h4:d.slots.length=4
 case neg =>
  have e4:((d.slots.length:Int) != 4)=true:=by simp;omega
  have hf:Hid (slotsB d=false):=by show slotsB d=false;simp [slotsB,h4]
  go_enter Tryz.func136,Tryz.ntmps136
  go_wp2_with fail
  go_quiet (fail)
  go_wp2_with fail
  go_ret
  exact⟨by rw [hf.out];rfl,quiet.out _ _ hb0⟩
 have e4:((d.slots.length:Int) != 4)=false:=by simp;omega
 by_cases hf0:0≤d.full
 case neg =>
  have e5:decide (d.full<0)=true:=by simp;omega
  have hf:Hid (slotsB d=false):=by show slotsB d=false;simp [slotsB,hf0]
  go_enter Tryz.func136,Tryz.ntmps136
  go_wp2_with fail
  go_quiet (fail)
  go_wp2_with fail
  go_ret
  exact⟨by rw [hf.out];rfl,quiet.out _ _ hb0⟩
 have e5:decide (d.full<0)=false:=by simp;omega
 have hs16:Hid (∀W,Calls Tryz.prog 168 #[.int .i64 4] W fun e w'=>e=.returned (.int .i64 16)∧w'=W):=bit16;by_cases hf1:d.full≤15
 case neg =>
  have e6:decide (16≤d.full)=true:=by simp;omega
  have hf:Hid (slotsB d=false):=by show slotsB d=false;simp [slotsB,hf1]
  go_enter Tryz.func136,Tryz.ntmps136
  go_wp2_with fail
  go_quiet ((go_at_call 168;exact Calls.quiet_of_same (hs16.out _)))
  go_wp2_with fail
  go_ret
  exact⟨by rw [hf.out];rfl,quiet.out _ _ hb0⟩
 have e6:decide (16≤d.full)=false:=by simp;omega
 obtain⟨ao,cap,hv,hc⟩:=h;have hv':Value.slice q.a0 d.slots.length q.k0=.slice ao d.slots.length cap:=hv
 injection hv' with h1 _ h3
 rw [h1,h3,h4] at c02;rcases hc with hL0|⟨b,o,rfl,hb,hc⟩
 ·rw [hL0] at h4;simp at h4
 replace hc:Hid (∀i (h:i<d.slots.length),ValAt w b (o+i*2) d.slots[i]):=hc;have hsB:Hid (slotsB d=(List.range 4).all (slotQ d.full d.slots)):=by show slotsB d=_;simp [slotsB,h4,hf0,hf1]
 have hfb:Hid (0≤d.full∧d.full≤15):=⟨hf0,hf1⟩;replace h4:Hid (d.slots.length=4):=h4
 go_enter Tryz.func136,Tryz.ntmps136
 go_wp2_with fail
 go_quiet ((go_at_call 168;exact Calls.quiet_of_same (hs16.out _)))
 have hbq:=quiet.out _ nq hb0;have hwn:∀p,((w.alloc (.cells (d.cells q) 34)).drewN nq).cell? p=(w.alloc (.cells (d.cells q) 34)).cell? p:=fun _=>rfl
 rw [←hwn] at c02 c03;have hz0':w.heap.size<((w.alloc (.cells (d.cells q) 34)).drewN nq).heap.size:=hz0;clear hwn hs16 e4 e5 e6 hb0;generalize ((w.alloc (.cells (d.cells q) 34)).drewN nq)=w0 at *;generalize d.full=f at *;generalize hLe:d.slots=L at *;replace hLe:Hid (d.slots=L):=hLe
 go_wp2_with fail
 go_loopw [23] (fun i wr=>∃k:Nat,k≤4∧i=.int .i64 k∧(∀j,j<k→slotQ f L j=true)∧Below w0.heap.size w0 wr) (fun i _=>4-(intOf i).toNat)
 case atStart=>exact⟨0,Nat.zero_le _,rfl,fun j hj=>by omega,Below.refl _ _⟩
 case round =>
  obtain⟨k,hk,rfl,hU,hBr⟩:=hrel;have hzr:=hBr.size;replace hU:Hid (∀j,j<k→slotQ f L j=true):=hU;have hBw:Below w.heap.size w wr:=hbq.trans (hBr.mono (by omega));by_cases hlt:k<4
  ·have g2:(k:Int)<4:=by omega
   have hkl:k<L.length:=by have:=h4.out;omega
   obtain⟨v0,v1⟩:=hc.out k hkl;have d0:wr.cell? ⟨b,o+k*2,none⟩=some (.int .i64 L[k].1):=(hBw.cell (p:=⟨b,o+k*2,none⟩) (by show b<w.heap.size;omega)).trans v0;have d1:wr.cell? ⟨b,o+k*2+1,none⟩=some (.int .i64 L[k].2):=(hBw.cell (p:=⟨b,o+k*2+1,none⟩) (by show b<w.heap.size;omega)).trans v1;have c3r:wr.cell? ⟨w.heap.size,3,none⟩=some (.int .i64 f):=(hBr.cell (p:=⟨w.heap.size,3,none⟩) hz0').trans c03;have hq:Hid (slotQ f L k=(okB L[k].1 L[k].2&&(hasF f k||(L[k].1==0&&L[k].2==0)))):=by
    show slotQ f L k=_;unfold slotQ;rw [show L.getD k (0,0)=L[k] by simp [List.getD_eq_getElem?_getD,List.getElem?_eq_getElem hkl]]
   have hno:Hid (slotQ f L k=false→slotsB d=false):=fun h=>by
    rw [hsB.out,Bool.eq_false_iff];intro h';rw [List.all_eq_true] at h';rw [h' k (List.mem_range.2 hlt)] at h
    cases h
   have hyes:Hid (slotQ f L k=true→∀j,j<k+1→slotQ f L j=true):=fun h j hj=>by
    by_cases e:j<k
    ·exact hU.out j e
    ·have:j=k:=by omega
     subst this;exact h
   have hbit:Hid (∀W,Calls Tryz.prog 168 #[.int .i64 k] W fun e w'=>e=.returned (.int .i64 (bit5 k))∧w'=W):=fun W=>slotBit5_any k W (by omega) (by omega)
   have hasE:Hid (hasF f k=!(bits .and .i64 f (bit5 (k:Int))==0)):=rfl;clear v0 v1;generalize L[k].1=x at *;generalize L[k].2=y at *;generalize bit5 (k:Int)=bt at *
   go_wp2_with fail
   have c3w:(wr.alloc (.cells #[.int .i64 x,.int .i64 y] 32)).cell? ⟨w.heap.size,3,none⟩=some (.int .i64 f):=by rw [World.cell?_alloc_past _ _ _ (by omega)];exact c3r
   have m0:(wr.alloc (.cells #[.int .i64 x,.int .i64 y] 32)).cell? ⟨wr.heap.size,0,none⟩=some (.int .i64 x):=by simp [go_sem]
   have m1:(wr.alloc (.cells #[.int .i64 x,.int .i64 y] 32)).cell? ⟨wr.heap.size,1,none⟩=some (.int .i64 y):=by simp [go_sem]
   have hzW:wr.heap.size<(wr.alloc (.cells #[.int .i64 x,.int .i64 y] 32)).heap.size:=by simp
   have hBW:Below w0.heap.size w0 (wr.alloc (.cells #[.int .i64 x,.int .i64 y] 32)):=hBr.alloc hzr _;generalize (wr.alloc (.cells #[.int .i64 x,.int .i64 y] 32))=W at *;have hlW:w.heap.size<W.heap.size:=by omega
   clear d0 d1 c3r;have hS0:Sev3 w.heap.size wr.heap.size f x y W W:=⟨c3w,m0,m1,Below.refl _ _⟩;have hok:Hid (∀U,Calls Tryz.prog 46 #[.agg #[.int .i64 x,.int .i64 y]] U fun e w'=>e=.returned (.bool (okB x y))∧Below U.heap.size U w'):=fun U=>implOk_any x y U
   cases hob:okB x y with
   |false =>
    have hfq:Hid (slotsB d=false):=hno.out (by rw [hq.out,hob];rfl);rw [hob] at hok
    go_cut [43] from 28 to 43 (fun s43 wc=>s43=.bool true∧Below W.heap.size W wc)
    case first =>
     refine wp_region_any (by kernel_rfl) ?_
     try (change wpAny _ _ _ _ _ _ _ (World.drew _))
     refine wpAny_ready (rs:=[0]) (by kernel_rfl) (by simp) ?_;refine AllReady.cons rfl (fun K hK=>?_) AllReady.nil
     go_simp
     refine hK _ _ ?_;clear hK K;refine wpAny_ready (rs:=[1]) (by kernel_rfl) (by simp) ?_;refine AllReady.cons rfl (fun K hK=>?_) AllReady.nil
     go_simp
     go_wp2_with (first|(go_at_call 46;refine(hok.out _).mono ?_;rintro e w1 ⟨rfl,hb1⟩))
     refine wpAny_take (i:=2) (v:=.bool true) rfl (by kernel_rfl) (by kernel_rfl) (by kernel_rfl) (fun _ _ _ h=>h) (Or.inl ⟨by kernel_rfl,fun _=>by kernel_rfl⟩) ?_;refine wpAny_take (i:=3) (v:=.bool true) rfl (by kernel_rfl) (by kernel_rfl) (by kernel_rfl) (fun _ _ _ h=>h) (Or.inl ⟨by kernel_rfl,fun _=>by kernel_rfl⟩) ?_;refine wpAny_take (i:=4) (v:=undef) rfl (by kernel_rfl) (by kernel_rfl) (by kernel_rfl) (fun _ _ _ h=>h) (Or.inr ⟨by kernel_rfl,rfl⟩) ?_;refine wpAny_take (i:=5) (v:=undef) rfl (by kernel_rfl) (by kernel_rfl) (by kernel_rfl) (fun _ _ _ h=>h) (Or.inr ⟨by kernel_rfl,rfl⟩) ?_;refine wpAny_take (i:=6) (v:=undef) rfl (by kernel_rfl) (by kernel_rfl) (by kernel_rfl) (fun _ _ _ h=>h) (Or.inr ⟨by kernel_rfl,rfl⟩) ?_;refine wpAny_take (i:=7) (v:=undef) rfl (by kernel_rfl) (by kernel_rfl) (by kernel_rfl) (fun _ _ _ h=>h) (Or.inr ⟨by kernel_rfl,rfl⟩) ?_;refine wpAny_take (i:=8) (v:=undef) rfl (by kernel_rfl) (by kernel_rfl) (by kernel_rfl) (fun _ _ _ h=>h) (Or.inr ⟨by kernel_rfl,rfl⟩) ?_;refine wpAny_take (i:=9) (v:=undef) rfl (by kernel_rfl) (by kernel_rfl) (by kernel_rfl) (fun _ _ _ h=>h) (Or.inr ⟨by kernel_rfl,rfl⟩) ?_;refine wpAny_take (i:=10) (v:=undef) rfl (by kernel_rfl) (by kernel_rfl) (by kernel_rfl) (fun _ _ _ h=>h) (Or.inr ⟨by kernel_rfl,rfl⟩) ?_;refine wpAny_take (i:=11) (v:=undef) rfl (by kernel_rfl) (by kernel_rfl) (by kernel_rfl) (fun _ _ _ h=>h) (Or.inr ⟨by kernel_rfl,rfl⟩) ?_;refine wpAny_take (i:=12) (v:=undef) rfl (by kernel_rfl) (by kernel_rfl) (by kernel_rfl) (fun _ _ _ h=>h) (Or.inr ⟨by kernel_rfl,rfl⟩) ?_;refine wpAny_take (i:=13) (v:=undef) rfl (by kernel_rfl) (by kernel_rfl) (by kernel_rfl) (fun _ _ _ h=>h) (Or.inr ⟨by kernel_rfl,rfl⟩) ?_;refine wpAny_take (i:=14) (v:=undef) rfl (by kernel_rfl) (by kernel_rfl) (by kernel_rfl) (fun _ _ _ h=>h) (Or.inr ⟨by kernel_rfl,rfl⟩) ?_;refine wpAny_take (i:=15) (v:=.bool true) rfl (by kernel_rfl) (by kernel_rfl) (by kernel_rfl) (fun _ _ _ h=>h) (Or.inl ⟨by kernel_rfl,fun _=>by kernel_rfl⟩) ?_;refine wpAny_done (by kernel_rfl) ?_ _
     go_simp
     go_wp2_with fail
     go_meet
     exact⟨rfl,⟨hb1.os,hb1.tape,hb1.output,hb1.size,hb1.block⟩⟩
    case rest =>
     obtain⟨rfl,hbc⟩:=hcut
     go_wp2_with fail
     go_ret
     exact⟨by rw [hfq.out];rfl,(hbq.trans (hBW.mono (by omega))).trans (hbc.mono (by omega))⟩
   |true =>
    rw [hob] at hok
    cases hzb:(bits .and .i64 f bt==0) with
    |false =>
     have hyq:Hid (∀j,j<k+1→slotQ f L j=true):=hyes.out (by rw [hq.out,hob,hasE.out,hzb];rfl)
     go_cut [43] from 28 to 43 (fun s43 wc=>s43=.bool false∧Below W.heap.size W wc)
     case first =>
      first
      |(go_region_with (first|(go_at_call 46;refine(hok.out _).mono ?_;rintro e w1 ⟨rfl,hb1⟩;have c3x:=(hb1.cell (p:=⟨w.heap.size,3,none⟩) hlW).trans c3w;have m0x:=(hb1.cell (p:=⟨wr.heap.size,0,none⟩) hzW).trans m0;have m1x:=(hb1.cell (p:=⟨wr.heap.size,1,none⟩) hzW).trans m1)|(go_at_call 168;refine(hbit.out _).mono ?_;rintro e w2 ⟨rfl,rfl⟩)))
      |fail
      all_goals go_wp2_with fail
      all_goals go_meet
      all_goals exact⟨rfl,⟨hb1.os,hb1.tape,hb1.output,hb1.size,hb1.block⟩⟩
     case rest =>
      obtain⟨rfl,hbc⟩:=hcut;have hBc:Below w0.heap.size w0 wc:=hBW.trans (hbc.mono (by omega))
      go_wp2_with fail
      go_roundw
      case rel=>exact⟨k+1,by omega,by go_num,hyq.out,hBc⟩
      case measure=>simp [intOf];omega
    |true =>
     cases hx0:(x==0) with
     |false =>
      have hfq:Hid (slotsB d=false):=hno.out (by rw [hq.out,hob,hasE.out,hzb,hx0];rfl)
      go_cut [43] from 28 to 43 (fun s43 wc=>s43=.bool true∧Below W.heap.size W wc)
      case first =>
       first
       |(go_region_with (first|(go_at_call 46;refine(hok.out _).mono ?_;rintro e w1 ⟨rfl,hb1⟩;have c3x:=(hb1.cell (p:=⟨w.heap.size,3,none⟩) hlW).trans c3w;have m0x:=(hb1.cell (p:=⟨wr.heap.size,0,none⟩) hzW).trans m0;have m1x:=(hb1.cell (p:=⟨wr.heap.size,1,none⟩) hzW).trans m1)|(go_at_call 168;refine(hbit.out _).mono ?_;rintro e w2 ⟨rfl,rfl⟩)))
       |fail
       all_goals go_wp2_with fail
       all_goals go_meet
       all_goals exact⟨rfl,⟨hb1.os,hb1.tape,hb1.output,hb1.size,hb1.block⟩⟩
      case rest =>
       obtain⟨rfl,hbc⟩:=hcut
       go_wp2_with fail
       go_ret
       exact⟨by rw [hfq.out];rfl,(hbq.trans (hBW.mono (by omega))).trans (hbc.mono (by omega))⟩
     |true =>
      cases hy0:(y==0) with
      |false =>
       have hfq:Hid (slotsB d=false):=hno.out (by rw [hq.out,hob,hasE.out,hzb,hx0,hy0];rfl)
       go_cut [43] from 28 to 43 (fun s43 wc=>s43=.bool true∧Below W.heap.size W wc)
       case first =>
        first
        |(go_region_with (first|(go_at_call 46;refine(hok.out _).mono ?_;rintro e w1 ⟨rfl,hb1⟩;have c3x:=(hb1.cell (p:=⟨w.heap.size,3,none⟩) hlW).trans c3w;have m0x:=(hb1.cell (p:=⟨wr.heap.size,0,none⟩) hzW).trans m0;have m1x:=(hb1.cell (p:=⟨wr.heap.size,1,none⟩) hzW).trans m1)|(go_at_call 168;refine(hbit.out _).mono ?_;rintro e w2 ⟨rfl,rfl⟩)))
        |fail
        all_goals go_wp2_with fail
        all_goals go_meet
        all_goals exact⟨rfl,⟨hb1.os,hb1.tape,hb1.output,hb1.size,hb1.block⟩⟩
       case rest =>
        obtain⟨rfl,hbc⟩:=hcut
        go_wp2_with fail
        go_ret
        exact⟨by rw [hfq.out];rfl,(hbq.trans (hBW.mono (by omega))).trans (hbc.mono (by omega))⟩
      |true =>
       have hyq:Hid (∀j,j<k+1→slotQ f L j=true):=hyes.out (by rw [hq.out,hob,hasE.out,hzb,hx0,hy0];rfl)
       go_cut [43] from 28 to 43 (fun s43 wc=>s43=.bool false∧Below W.heap.size W wc)
       case first =>
        first
        |(go_region_with (first|(go_at_call 46;refine(hok.out _).mono ?_;rintro e w1 ⟨rfl,hb1⟩;have c3x:=(hb1.cell (p:=⟨w.heap.size,3,none⟩) hlW).trans c3w;have m0x:=(hb1.cell (p:=⟨wr.heap.size,0,none⟩) hzW).trans m0;have m1x:=(hb1.cell (p:=⟨wr.heap.size,1,none⟩) hzW).trans m1)|(go_at_call 168;refine(hbit.out _).mono ?_;rintro e w2 ⟨rfl,rfl⟩)))
        |fail
        all_goals go_wp2_with fail
        all_goals go_meet
        all_goals exact⟨rfl,⟨hb1.os,hb1.tape,hb1.output,hb1.size,hb1.block⟩⟩
       case rest =>
        obtain⟨rfl,hbc⟩:=hcut;have hBc:Below w0.heap.size w0 wc:=hBW.trans (hbc.mono (by omega))
        go_wp2_with fail
        go_roundw
        case rel=>exact⟨k+1,by omega,by go_num,hyq.out,hBc⟩
        case measure=>simp [intOf];omega
  ·have e:k=4:=by omega
   subst e;have hyq:Hid (slotsB d=true):=by
    show slotsB d=true;rw [hsB.out,List.all_eq_true];exact fun j hj=>hU.out j (List.mem_range.1 hj)
   go_wp2_with fail
   go_ret
   exact⟨by rw [hyq.out];rfl,hBw⟩
end Go.Proofs.YtgmkmeodimmdoaaGreatDoor.Eld
