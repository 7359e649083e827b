import Derived.Test.YtgmkmeodimmdoaaGreatDoorBQe
import Derived.Laws.Tables
set_option maxRecDepth 100000
set_option maxHeartbeats 8000000
namespace Go.Proofs.YtgmkmeodimmdoaaGreatDoor.Eld
open Go.ChangeShapes Go.WideShapes Go.ChangeAt Go.RowKit Go.Joins
theorem specRead_none (w:World) :
  Calls Tryz.prog 208 #[.string ⟨([110,111,110,101]:List UInt8).toArray⟩] w fun e w'=>e=.returned (.tuple #[.agg #[.int .i64 0,.int .i64 0],.bool true])∧Below w.heap.size w w':=by
 go_enter Tryz.func208,Tryz.ntmps208
 go_wp2_with fail
 exact bodyPost_ret (v:=.tuple #[.agg #[.int .i64 0,.int .i64 0],.bool true]) (by simp [results,Tryz.results208,go_sem]) rfl ⟨rfl,(Below.refl _ _).alloc (Nat.le_refl _) _⟩
theorem specRead_size (t:List UInt8) (w:World) (hnn:(t==[110,111,110,101])=false) (hs:t.length<2∨4<t.length) :
  Calls Tryz.prog 208 #[.string ⟨t.toArray⟩] w fun e w'=>e=.returned (.tuple #[.agg #[.int .i64 0,.int .i64 0],.bool false])∧Below w.heap.size w w':=by
 have g1:(decide ((2:Int)≤(t.length:Int))&&decide ((t.length:Int)≤4))=false:=by rw [Bool.and_eq_false_iff,decide_eq_false_iff_not,decide_eq_false_iff_not];omega
 go_enter Tryz.func208,Tryz.ntmps208
 go_wp2_with (go_at_call 40;refine(l6In_any _ _ _ _).mono ?_;rintro e w1 ⟨rfl,rfl⟩)
 exact bodyPost_ret (v:=.tuple #[.agg #[.int .i64 0,.int .i64 0],.bool false]) (by simp [results,Tryz.results208,go_sem]) rfl ⟨rfl,(Below.refl _ _).alloc (Nat.le_refl _) _⟩
def specB (c:UInt8) (r:List UInt8) (b:Bool) (x:Int):Bool:=b&&(!(kindL c==0)&&(txt (kindL c) x==c::r))
theorem specRead_n (r:List UInt8) (x:Int) (b:Bool) (w:World) (hl1:1≤r.length) (hl3:r.length≤3) (hnn:((110::r:List UInt8)==[110,111,110,101])=false)
  (C:Hid (∀w,Calls Tryz.prog 207 #[.string ⟨r.toArray⟩] w fun e w'=>e=.returned (.tuple #[.int .i64 x,.bool b])∧w'=w)) :
  Calls Tryz.prog 208 #[.string ⟨(110::r).toArray⟩] w fun e w'=>e=.returned (readV (specB 110 r b x) (kindL 110) x)∧Below w.heap.size w w':=by
 have g1:(decide ((2:Int)≤(r.length:Int)+1)&&decide ((r.length:Int)+1≤4))=true:=by rw [Bool.and_eq_true,decide_eq_true_eq,decide_eq_true_eq];omega
 go_enter Tryz.func208,Tryz.ntmps208
 go_wp2_with fail
 refine(l6In_any _ _ _ _).mono ?_;rintro e w1 ⟨rfl,hw1⟩;subst hw1
 go_wp2_with fail
 simp only [extract_mk_tail];refine(C.out _).mono ?_;rintro e w1 ⟨rfl,hw1⟩;subst hw1
 cases b with
 |false =>
  have HF:Hid (specB 110 r false x=false):=rfl
  go_wp2_with fail
  exact bodyPost_ret (v:=.tuple #[.agg #[.int .i64 0,.int .i64 0],.bool false]) (by simp [results,Tryz.results208,go_sem]) rfl ⟨by rw [HF.out,readV_false],((Below.refl _ _).alloc (Nat.le_refl _) _).alloc (by simp) _⟩
 |true =>
  go_wp2_with fail
  refine(specText_any _ _ _).mono ?_;rintro e w3 ⟨rfl,hb3⟩;obtain⟨hc3,hf3⟩:=bcell hb3;have hz3:=hb3.size;simp at hz3;have z0:w3.cell? ⟨w.heap.size,0,none⟩=some (.int .i64 0):=by rw [hc3 _ _ (by simp;omega)];simp [go_sem]
  have z1:w3.cell? ⟨w.heap.size,1,none⟩=some (.int .i64 0):=by rw [hc3 _ _ (by simp;omega)];simp [go_sem]
  have z2:w3.frozen? ⟨w.heap.size,0,none⟩=false:=by rw [hf3 _ _ (by simp;omega)];simp [go_sem]
  have z3:w3.frozen? ⟨w.heap.size,1,none⟩=false:=by rw [hf3 _ _ (by simp;omega)];simp [go_sem]
  have z4:w3.cell? ⟨w.heap.size+1,0,none⟩=some (.int .i64 1):=by rw [hc3 _ _ (by simp)];simp [go_sem]
  have z5:w3.cell? ⟨w.heap.size+1,1,none⟩=some (.int .i64 x):=by rw [hc3 _ _ (by simp)];simp [go_sem]
  have hB3:Below w.heap.size w w3:=(((Below.refl _ _).alloc (Nat.le_refl _) _).alloc (by simp) _).trans (hb3.mono (by simp;omega));clear hc3 hf3 hb3
  cases he:(txt 1 x==110::r) with
  |false =>
   have HF:Hid (specB 110 r true x=false):=by show (true&&(!(kindL 110==0)&&(txt 1 x==110::r)))=false;rw [he];rfl
   go_wp2_with fail
   exact bodyPost_ret (v:=.tuple #[.agg #[.int .i64 0,.int .i64 0],.bool false]) (by simp [results,Tryz.results208,go_sem,z0,z1]) rfl ⟨by rw [HF.out,readV_false],(hB3.setCell (by dsimp only;omega) _).setCell (by dsimp only;omega) _⟩
  |true =>
   have HF:Hid (specB 110 r true x=true):=by show (true&&(!(kindL 110==0)&&(txt 1 x==110::r)))=true;rw [he];rfl
   go_wp2_with fail
   exact bodyPost_ret (v:=.tuple #[.agg #[.int .i64 1,.int .i64 x],.bool true]) (by simp [results,Tryz.results208,go_sem,z0,z1]) rfl ⟨by rw [HF.out,readV_true];rfl,(hB3.setCell (by dsimp only;omega) _).setCell (by dsimp only;omega) _⟩
theorem specRead_a (r:List UInt8) (x:Int) (b:Bool) (w:World) (hl1:1≤r.length) (hl3:r.length≤3) (hnn:((97::r:List UInt8)==[110,111,110,101])=false)
  (C:Hid (∀w,Calls Tryz.prog 207 #[.string ⟨r.toArray⟩] w fun e w'=>e=.returned (.tuple #[.int .i64 x,.bool b])∧w'=w)) :
  Calls Tryz.prog 208 #[.string ⟨(97::r).toArray⟩] w fun e w'=>e=.returned (readV (specB 97 r b x) (kindL 97) x)∧Below w.heap.size w w':=by
 have g1:(decide ((2:Int)≤(r.length:Int)+1)&&decide ((r.length:Int)+1≤4))=true:=by rw [Bool.and_eq_true,decide_eq_true_eq,decide_eq_true_eq];omega
 go_enter Tryz.func208,Tryz.ntmps208
 go_wp2_with fail
 refine(l6In_any _ _ _ _).mono ?_;rintro e w1 ⟨rfl,hw1⟩;subst hw1
 go_wp2_with fail
 simp only [extract_mk_tail];refine(C.out _).mono ?_;rintro e w1 ⟨rfl,hw1⟩;subst hw1
 cases b with
 |false =>
  have HF:Hid (specB 97 r false x=false):=rfl
  go_wp2_with fail
  exact bodyPost_ret (v:=.tuple #[.agg #[.int .i64 0,.int .i64 0],.bool false]) (by simp [results,Tryz.results208,go_sem]) rfl ⟨by rw [HF.out,readV_false],((Below.refl _ _).alloc (Nat.le_refl _) _).alloc (by simp) _⟩
 |true =>
  go_wp2_with fail
  refine(specText_any _ _ _).mono ?_;rintro e w3 ⟨rfl,hb3⟩;obtain⟨hc3,hf3⟩:=bcell hb3;have hz3:=hb3.size;simp at hz3;have z0:w3.cell? ⟨w.heap.size,0,none⟩=some (.int .i64 0):=by rw [hc3 _ _ (by simp;omega)];simp [go_sem]
  have z1:w3.cell? ⟨w.heap.size,1,none⟩=some (.int .i64 0):=by rw [hc3 _ _ (by simp;omega)];simp [go_sem]
  have z2:w3.frozen? ⟨w.heap.size,0,none⟩=false:=by rw [hf3 _ _ (by simp;omega)];simp [go_sem]
  have z3:w3.frozen? ⟨w.heap.size,1,none⟩=false:=by rw [hf3 _ _ (by simp;omega)];simp [go_sem]
  have z4:w3.cell? ⟨w.heap.size+1,0,none⟩=some (.int .i64 2):=by rw [hc3 _ _ (by simp)];simp [go_sem]
  have z5:w3.cell? ⟨w.heap.size+1,1,none⟩=some (.int .i64 x):=by rw [hc3 _ _ (by simp)];simp [go_sem]
  have hB3:Below w.heap.size w w3:=(((Below.refl _ _).alloc (Nat.le_refl _) _).alloc (by simp) _).trans (hb3.mono (by simp;omega));clear hc3 hf3 hb3
  cases he:(txt 2 x==97::r) with
  |false =>
   have HF:Hid (specB 97 r true x=false):=by show (true&&(!(kindL 97==0)&&(txt 2 x==97::r)))=false;rw [he];rfl
   go_wp2_with fail
   exact bodyPost_ret (v:=.tuple #[.agg #[.int .i64 0,.int .i64 0],.bool false]) (by simp [results,Tryz.results208,go_sem,z0,z1]) rfl ⟨by rw [HF.out,readV_false],(hB3.setCell (by dsimp only;omega) _).setCell (by dsimp only;omega) _⟩
  |true =>
   have HF:Hid (specB 97 r true x=true):=by show (true&&(!(kindL 97==0)&&(txt 2 x==97::r)))=true;rw [he];rfl
   go_wp2_with fail
   exact bodyPost_ret (v:=.tuple #[.agg #[.int .i64 2,.int .i64 x],.bool true]) (by simp [results,Tryz.results208,go_sem,z0,z1]) rfl ⟨by rw [HF.out,readV_true];rfl,(hB3.setCell (by dsimp only;omega) _).setCell (by dsimp only;omega) _⟩
theorem specRead_r (r:List UInt8) (x:Int) (b:Bool) (w:World) (hl1:1≤r.length) (hl3:r.length≤3) (hnn:((114::r:List UInt8)==[110,111,110,101])=false)
  (C:Hid (∀w,Calls Tryz.prog 207 #[.string ⟨r.toArray⟩] w fun e w'=>e=.returned (.tuple #[.int .i64 x,.bool b])∧w'=w)) :
  Calls Tryz.prog 208 #[.string ⟨(114::r).toArray⟩] w fun e w'=>e=.returned (readV (specB 114 r b x) (kindL 114) x)∧Below w.heap.size w w':=by
 have g1:(decide ((2:Int)≤(r.length:Int)+1)&&decide ((r.length:Int)+1≤4))=true:=by rw [Bool.and_eq_true,decide_eq_true_eq,decide_eq_true_eq];omega
 go_enter Tryz.func208,Tryz.ntmps208
 go_wp2_with fail
 refine(l6In_any _ _ _ _).mono ?_;rintro e w1 ⟨rfl,hw1⟩;subst hw1
 go_wp2_with fail
 simp only [extract_mk_tail];refine(C.out _).mono ?_;rintro e w1 ⟨rfl,hw1⟩;subst hw1
 cases b with
 |false =>
  have HF:Hid (specB 114 r false x=false):=rfl
  go_wp2_with fail
  exact bodyPost_ret (v:=.tuple #[.agg #[.int .i64 0,.int .i64 0],.bool false]) (by simp [results,Tryz.results208,go_sem]) rfl ⟨by rw [HF.out,readV_false],((Below.refl _ _).alloc (Nat.le_refl _) _).alloc (by simp) _⟩
 |true =>
  go_wp2_with fail
  refine(specText_any _ _ _).mono ?_;rintro e w3 ⟨rfl,hb3⟩;obtain⟨hc3,hf3⟩:=bcell hb3;have hz3:=hb3.size;simp at hz3;have z0:w3.cell? ⟨w.heap.size,0,none⟩=some (.int .i64 0):=by rw [hc3 _ _ (by simp;omega)];simp [go_sem]
  have z1:w3.cell? ⟨w.heap.size,1,none⟩=some (.int .i64 0):=by rw [hc3 _ _ (by simp;omega)];simp [go_sem]
  have z2:w3.frozen? ⟨w.heap.size,0,none⟩=false:=by rw [hf3 _ _ (by simp;omega)];simp [go_sem]
  have z3:w3.frozen? ⟨w.heap.size,1,none⟩=false:=by rw [hf3 _ _ (by simp;omega)];simp [go_sem]
  have z4:w3.cell? ⟨w.heap.size+1,0,none⟩=some (.int .i64 3):=by rw [hc3 _ _ (by simp)];simp [go_sem]
  have z5:w3.cell? ⟨w.heap.size+1,1,none⟩=some (.int .i64 x):=by rw [hc3 _ _ (by simp)];simp [go_sem]
  have hB3:Below w.heap.size w w3:=(((Below.refl _ _).alloc (Nat.le_refl _) _).alloc (by simp) _).trans (hb3.mono (by simp;omega));clear hc3 hf3 hb3
  cases he:(txt 3 x==114::r) with
  |false =>
   have HF:Hid (specB 114 r true x=false):=by show (true&&(!(kindL 114==0)&&(txt 3 x==114::r)))=false;rw [he];rfl
   go_wp2_with fail
   exact bodyPost_ret (v:=.tuple #[.agg #[.int .i64 0,.int .i64 0],.bool false]) (by simp [results,Tryz.results208,go_sem,z0,z1]) rfl ⟨by rw [HF.out,readV_false],(hB3.setCell (by dsimp only;omega) _).setCell (by dsimp only;omega) _⟩
  |true =>
   have HF:Hid (specB 114 r true x=true):=by show (true&&(!(kindL 114==0)&&(txt 3 x==114::r)))=true;rw [he];rfl
   go_wp2_with fail
   exact bodyPost_ret (v:=.tuple #[.agg #[.int .i64 3,.int .i64 x],.bool true]) (by simp [results,Tryz.results208,go_sem,z0,z1]) rfl ⟨by rw [HF.out,readV_true];rfl,(hB3.setCell (by dsimp only;omega) _).setCell (by dsimp only;omega) _⟩
theorem specRead_o (c:UInt8) (r:List UInt8) (x:Int) (b:Bool) (w:World) (hl1:1≤r.length) (hl3:r.length≤3) (hnn:((c::r:List UInt8)==[110,111,110,101])=false) (q1:((((ByteArray.mk (c::r).toArray)[0]'(by simp [ByteArray.size])).toNat:Int)==110)=false) (q2:((((ByteArray.mk (c::r).toArray)[0]'(by simp [ByteArray.size])).toNat:Int)==97)=false) (q3:((((ByteArray.mk (c::r).toArray)[0]'(by simp [ByteArray.size])).toNat:Int)==114)=false) (hk:kindL c=0)
  (C:Hid (∀w,Calls Tryz.prog 207 #[.string ⟨r.toArray⟩] w fun e w'=>e=.returned (.tuple #[.int .i64 x,.bool b])∧w'=w)) :
  Calls Tryz.prog 208 #[.string ⟨(c::r).toArray⟩] w fun e w'=>e=.returned (readV (specB c r b x) (kindL c) x)∧Below w.heap.size w w':=by
 have g1:(decide ((2:Int)≤(r.length:Int)+1)&&decide ((r.length:Int)+1≤4))=true:=by rw [Bool.and_eq_true,decide_eq_true_eq,decide_eq_true_eq];omega
 go_enter Tryz.func208,Tryz.ntmps208
 go_wp2_with fail
 refine(l6In_any _ _ _ _).mono ?_;rintro e w1 ⟨rfl,hw1⟩;subst hw1
 go_wp2_with fail
 simp only [extract_mk_tail];refine(C.out _).mono ?_;rintro e w1 ⟨rfl,hw1⟩;subst hw1;have HF:Hid (specB c r b x=false):=by show specB c r b x=false;simp [specB,hk]
 cases b with
 |false =>
  go_wp2_with fail
  exact bodyPost_ret (v:=.tuple #[.agg #[.int .i64 0,.int .i64 0],.bool false]) (by simp [results,Tryz.results208,go_sem]) rfl ⟨by rw [HF.out,readV_false],((Below.refl _ _).alloc (Nat.le_refl _) _).alloc (by simp) _⟩
 |true =>
  go_wp2_with fail
  exact bodyPost_ret (v:=.tuple #[.agg #[.int .i64 0,.int .i64 0],.bool false]) (by simp [results,Tryz.results208,go_sem]) rfl ⟨by rw [HF.out,readV_false],((Below.refl _ _).alloc (Nat.le_refl _) _).alloc (by simp) _⟩
theorem specRead_key (c:UInt8) (r:List UInt8) (x:Int) (b:Bool) (w:World) (hl1:1≤r.length) (hl3:r.length≤3) (hnn:((c::r:List UInt8)==[110,111,110,101])=false)
  (C:∀w,Calls Tryz.prog 207 #[.string ⟨r.toArray⟩] w fun e w'=>e=.returned (.tuple #[.int .i64 x,.bool b])∧w'=w) :
  Calls Tryz.prog 208 #[.string ⟨(c::r).toArray⟩] w fun e w'=>e=.returned (readV (specB c r b x) (kindL c) x)∧Below w.heap.size w w':=by
 rcases kindL_cases c with⟨rfl,_⟩|⟨rfl,_⟩|⟨rfl,_⟩|⟨h1,h2,h3,e⟩
 ·exact specRead_n r x b w hl1 hl3 hnn C
 ·exact specRead_a r x b w hl1 hl3 hnn C
 ·exact specRead_r r x b w hl1 hl3 hnn C
 ·exact specRead_o c r x b w hl1 hl3 hnn (by show ((c.toNat:Int)==110)=false;rw [beq_eq_false_iff_ne];have:=byte_ne (m:=110) (by omega) h1;omega) (by show ((c.toNat:Int)==97)=false;rw [beq_eq_false_iff_ne];have:=byte_ne (m:=97) (by omega) h2;omega) (by show ((c.toNat:Int)==114)=false;rw [beq_eq_false_iff_ne];have:=byte_ne (m:=114) (by omega) h3;omega) e C
theorem itoa_len1 (n:Int) (h1 : -99≤n) (h2:n≤99):1≤(Lib.itoa n).length:=by
 by_cases h:n<0
 ·rw [itoa_neg n h,List.length_cons];omega
 ·rw [itoa_pos n (by omega)];exact dec_len1 _ (by omega)
theorem specRead_yes (k n:Int) (w:World) (h:okB k n=true) :
  Calls Tryz.prog 208 #[.string ⟨(txt k n).toArray⟩] w fun e w'=>e=.returned (.tuple #[.agg #[.int .i64 k,.int .i64 n],.bool true])∧Below w.heap.size w w':=by
 have hbd:=okB_bd h;by_cases hk:k=0
 ·subst hk;have hn:n=0:=by rw [okB_zero] at h;simpa using h
  subst hn;rw [txt_none h];exact specRead_none w
 ·obtain⟨c,hc,ht⟩:=txt_letter h hk;rw [ht];have hl:=itoa_len n hbd.1 hbd.2;have hl1:=itoa_len1 n hbd.1 hbd.2;have hnn:((c::Lib.itoa n:List UInt8)==[110,111,110,101])=false:=by
   rw [beq_eq_false_iff_ne];intro hh;injection hh with _ hh;exact itoa_head n hbd.1 hbd.2 _ hh
  have hr:=specRead_key c (Lib.itoa n) n true w hl1 hl hnn (fun w=>l1Dec_yes n w hbd.1 hbd.2);have hB:specB c (Lib.itoa n) true n=true:=by
   rw [specB,hc,ht];simp [hk]
  rw [hB,readV_true,hc] at hr;exact hr
theorem specRead_no (t:List UInt8) (w:World) (h:∀k n,okB k n=true→t≠txt k n) :
  Calls Tryz.prog 208 #[.string ⟨t.toArray⟩] w fun e w'=>e=.returned (.tuple #[.agg #[.int .i64 0,.int .i64 0],.bool false])∧Below w.heap.size w w':=by
 have hnn:(t==[110,111,110,101])=false:=by
  rw [beq_eq_false_iff_ne];intro hh;exact h 0 0 rfl (by rw [hh];rfl)
 by_cases hs:t.length<2∨4<t.length
 ·exact specRead_size t w hnn hs
 ·cases t with
  |nil=>simp at hs
  |cons c r =>
   simp only [List.length_cons] at hs;obtain⟨x,b,C⟩:=l1Dec_some r (by omega) (by omega);have hr:=specRead_key c r x b w (by omega) (by omega) hnn C;have hB:specB c r b x=false:=by
    rw [Bool.eq_false_iff];intro hh;simp only [specB,Bool.and_eq_true,Bool.not_eq_true',beq_eq_false_iff_ne,beq_iff_eq] at hh
    cases ho:okB (kindL c) x with
    |false=>rw [txt_bad ho] at hh;exact absurd hh.2.2 (List.cons_ne_nil _ _).symm
    |true=>exact h (kindL c) x ho hh.2.2.symm
   rw [hB,readV_false] at hr;exact hr
theorem l1Dec_empty (s:ByteArray) (w:World) (hs:s.size<1) :
  Calls Tryz.prog 207 #[.string s] w fun e w'=>e=.returned (.tuple #[.int .i64 0,.bool false])∧w'=w:=by
 have g0:¬(1:Int)<(s.size:Int):=by omega
 have g1:(decide ((1:Int)≤(s.size:Int))&&decide ((s.size:Int)≤2))=false:=by rw [Bool.and_eq_false_iff,decide_eq_false_iff_not,decide_eq_false_iff_not];omega
 go_enter Tryz.func207,Tryz.ntmps207
 go_wp2_with (go_at_call 40;refine(l6In_any _ _ _ _).mono ?_;rintro e w1 ⟨rfl,rfl⟩)
 go_ret2
 exact⟨rfl,rfl⟩
theorem l1Dec_great (s:ByteArray) (w:World) (hs:3≤s.size) (hs2:s.size≤1048576) (h0:((s[0].toNat:Int)==45)=false) :
  Calls Tryz.prog 207 #[.string s] w fun e w'=>e=.returned (.tuple #[.int .i64 0,.bool false])∧w'=w:=by
 have g1:(decide ((1:Int)≤(s.size:Int))&&decide ((s.size:Int)≤2))=false:=by rw [Bool.and_eq_false_iff,decide_eq_false_iff_not,decide_eq_false_iff_not];omega
 have g2:(1:Int)<(s.size:Int):=by omega
 have g3:(0:Int)<(s.size:Int):=by omega
 go_enter Tryz.func207,Tryz.ntmps207
 go_wp2_with (go_at_call 40;refine(l6In_any _ _ _ _).mono ?_;rintro e w1 ⟨rfl,rfl⟩)
 go_ret2
 exact⟨rfl,rfl⟩
theorem l1Dec_less (s t:ByteArray) (w:World) (hext:s.extract 1 s.size=t) (hs:2≤s.size) (hs2:s.size≤1048576) (ht1:3≤t.size) (ht2:t.size≤1048576) (h0:((s[0].toNat:Int)==45)=true) :
  Calls Tryz.prog 207 #[.string s] w fun e w'=>e=.returned (.tuple #[.int .i64 0,.bool false])∧w'=w:=by
 have g1:(decide ((1:Int)≤(t.size:Int))&&decide ((t.size:Int)≤2))=false:=by rw [Bool.and_eq_false_iff,decide_eq_false_iff_not,decide_eq_false_iff_not];omega
 have g2:(1:Int)<(s.size:Int):=by omega
 have g3:(0:Int)<(s.size:Int):=by omega
 go_enter Tryz.func207,Tryz.ntmps207
 go_wp2_with fail
 go_wp2_with (go_at_call 40;refine(l6In_any _ _ _ _).mono ?_;rintro e w1 ⟨rfl,rfl⟩)
 go_ret2
 exact⟨rfl,rfl⟩
theorem l1Dec_tot (r:List UInt8) (hl:r.length≤1048576):∃x b,∀w:World,
  Calls Tryz.prog 207 #[.string ⟨r.toArray⟩] w fun e w'=>e=.returned (.tuple #[.int .i64 x,.bool b])∧w'=w:=by
 by_cases h0:r.length<1
 ·exact⟨0,false,fun w=>l1Dec_empty _ w (by rw [ba_size];exact h0)⟩
 by_cases h3:r.length≤3
 ·exact l1Dec_some r (by omega) h3
 match r,hl,h0,h3 with
 |a::r,hl,_,h3 =>
  simp at hl h3;by_cases ha:a=45
  ·subst ha;exact⟨0,false,fun w=>l1Dec_less ⟨(45::r).toArray⟩ ⟨r.toArray⟩ w (by rw [ba_size];exact extract_mk_tail _ _) (by rw [ba_size,List.length_cons];omega) (by rw [ba_size,List.length_cons];omega) (by rw [ba_size];omega) (by rw [ba_size];omega) rfl⟩
  ·have hx':=byte_ne (m:=45) (by omega) ha;exact⟨0,false,fun w=>l1Dec_great ⟨(a::r).toArray⟩ w (by rw [ba_size,List.length_cons];omega) (by rw [ba_size,List.length_cons];omega) (by show ((a.toNat:Int)==45)=false;rw [beq_eq_false_iff_ne];omega)⟩
theorem decS (r:List UInt8) (hl:r.length≤1048576):∃x b,(∀m,-99≤m→m≤99→r=Lib.itoa m→x=m)∧∀w:World,
  Calls Tryz.prog 207 #[.string ⟨r.toArray⟩] w fun e w'=>e=.returned (.tuple #[.int .i64 x,.bool b])∧w'=w:=by
 by_cases h:∃m,-99≤m∧m≤99∧r=Lib.itoa m
 ·obtain⟨m,h1,h2,rfl⟩:=h;refine⟨m,true,fun n n1 n2 e=>?_,fun w=>l1Dec_yes m w h1 h2⟩;have e1:=atoi_itoa m h1 h2;have e2:=atoi_itoa n n1 n2;rw [e,e2] at e1
  cases e1;rfl
 ·obtain⟨x,b,hx⟩:=l1Dec_tot r hl;exact⟨x,b,fun m h1 h2 e=>absurd ⟨m,h1,h2,e⟩ h,hx⟩
theorem valS (r:List UInt8):∃a c b,(∀k n,okB k n=true→r=txt k n→a=k∧c=n)∧∀w:World,
  Calls Tryz.prog 208 #[.string ⟨r.toArray⟩] w fun e w'=>e=.returned (.tuple #[.agg #[.int .i64 a,.int .i64 c],.bool b])∧Below w.heap.size w w':=by
 by_cases h:∃k n,okB k n=true∧r=txt k n
 ·obtain⟨k,n,h1,rfl⟩:=h;exact⟨k,n,true,fun k' n' h2 e=>txt_inj h1 h2 e,fun w=>specRead_yes k n w h1⟩
 ·exact⟨0,0,false,fun k n h1 e=>absurd ⟨k,n,h1,e⟩ h,fun w=>specRead_no r w (fun k n h1 e=>h ⟨k,n,h1,e⟩)⟩
def cntP (k:Int) (j:Nat):Nat:=(if 0<j then (fR k).toNat else 0)+(if 1<j then (fS k).toNat else 0)+(if 2<j then (fT k).toNat else 0)+(if 3<j then (fV k).toNat else 0)
def fP (k:Int) (j:Nat):Bool:=if j=0 then fR k else if j=1 then fS k else if j=2 then fT k else fV k
theorem cntP_zero (k:Int):cntP k 0=0:=by simp [cntP]
theorem cntP_succ (k:Int) (j:Nat) (hj:j<4):cntP k (j+1)=cntP k j+(fP k j).toNat:=by
 rcases (by omega:j=0∨j=1∨j=2∨j=3) with rfl|rfl|rfl|rfl<;>simp [cntP,fP]
theorem cntP_le (k:Int) (j:Nat):cntP k j≤4:=by
 unfold cntP;have:=Bool.toNat_le (fR k);have:=Bool.toNat_le (fS k);have:=Bool.toNat_le (fT k);have:=Bool.toNat_le (fV k)
 have h0:(if 0<j then (fR k).toNat else 0)≤1:=by split<;>omega
 have h1:(if 1<j then (fS k).toNat else 0)≤1:=by split<;>omega
 have h2:(if 2<j then (fT k).toNat else 0)≤1:=by split<;>omega
 have h3:(if 3<j then (fV k).toNat else 0)≤1:=by split<;>omega
 omega
theorem part_at {P:List (List UInt8)} {k r s t a b:Int} (h:P=word k::(seg (fR k) (Lib.itoa r)++(seg (fS k) (Lib.itoa s)++(seg (fT k) (Lib.itoa t)++seg (fV k) (txt a b))))) :
  (fR k=true→P[1+cntP k 0]?=some (Lib.itoa r))∧(fS k=true→P[1+cntP k 1]?=some (Lib.itoa s))∧(fT k=true→P[1+cntP k 2]?=some (Lib.itoa t))∧(fV k=true→P[1+cntP k 3]?=some (txt a b)):=by
 subst h;unfold cntP
 cases fR k<;>cases fS k<;>cases fT k<;>cases fV k<;>simp [seg]
structure UpTo (x:List UInt8) (k r s t a b:Int) (j:Nat):Prop where
 eq:∀k' r' s' t' a' b',opB k' r' s' t' a' b'=true→x=opTxt k' r' s' t' a' b'→k'=k∧(0<j→r'=r)∧(1<j→s'=s)∧(2<j→t'=t)∧(3<j→a'=a∧b'=b)
 zr:¬0<j→r=0
 zs:¬1<j→s=0
 zt:¬2<j→t=0
 zv:¬3<j→a=0∧b=0
theorem UpTo.start {x:List UInt8} {k:Int} (h:∀k' r' s' t' a' b',opB k' r' s' t' a' b'=true→x=opTxt k' r' s' t' a' b'→k'=k):UpTo x k 0 0 0 0 0 0 :=
 ⟨fun k' r' s' t' a' b' ho e=>⟨h _ _ _ _ _ _ ho e,fun h=>by omega,fun h=>by omega,fun h=>by omega,fun h=>by omega⟩,fun _=>rfl,fun _=>rfl,fun _=>rfl,fun _=>⟨rfl,rfl⟩⟩
theorem UpTo.done {x:List UInt8} {k r s t a b:Int} (h:UpTo x k r s t a b 4):∀k' r' s' t' a' b',opB k' r' s' t' a' b'=true→x=opTxt k' r' s' t' a' b'→k'=k∧r'=r∧s'=s∧t'=t∧a'=a∧b'=b:=by
 intro k' r' s' t' a' b' ho e;obtain⟨h1,h2,h3,h4,h5⟩:=h.eq _ _ _ _ _ _ ho e;exact⟨h1,h2 (by omega),h3 (by omega),h4 (by omega),(h5 (by omega)).1,(h5 (by omega)).2⟩
theorem UpTo.skip {x:List UInt8} {k r s t a b:Int} {j:Nat} (h:UpTo x k r s t a b j) (hj:j<4) (hf:fP k j=false):UpTo x k r s t a b (j+1):=by
 refine⟨fun k' r' s' t' a' b' ho e=>?_,fun hh=>h.zr (by omega),fun hh=>h.zs (by omega),fun hh=>h.zt (by omega),fun hh=>h.zv (by omega)⟩;obtain⟨h1,h2,h3,h4,h5⟩:=h.eq _ _ _ _ _ _ ho e;have o:=opIs_of ho;subst h1;refine⟨rfl,fun _=>?_,fun h'=>?_,fun h'=>?_,fun h'=>?_⟩
 ·by_cases e:0<j
  ·exact h2 e
  ·have:j=0:=by omega
   subst this;rw [h.zr (by omega)];exact o.rN (by simpa [fP] using hf)
 ·by_cases e:1<j
  ·exact h3 e
  ·have:j=1:=by omega
   subst this;rw [h.zs (by omega)];exact o.sN (by simpa [fP] using hf)
 ·by_cases e:2<j
  ·exact h4 e
  ·have:j=2:=by omega
   subst this;rw [h.zt (by omega)];exact o.tN (by simpa [fP] using hf)
 ·by_cases e:3<j
  ·exact h5 e
  ·have:j=3:=by omega
   subst this;obtain⟨z1,z2⟩:=h.zv (by omega);obtain⟨v1,v2⟩:=o.vN (by simpa [fP] using hf);exact⟨by omega,by omega⟩
theorem words_at {x:List UInt8} {P:List (List UInt8)} (hP:pcs x=P) {k r s t a b:Int} (ho:opB k r s t a b=true) (e:x=opTxt k r s t a b) :
  (fR k=true→P[1+cntP k 0]?=some (Lib.itoa r))∧(fS k=true→P[1+cntP k 1]?=some (Lib.itoa s))∧(fT k=true→P[1+cntP k 2]?=some (Lib.itoa t))∧(fV k=true→P[1+cntP k 3]?=some (txt a b)) :=
 part_at (by rw [←hP,e,pcs_op ho])
theorem UpTo.none {x:List UInt8} {P:List (List UInt8)} (hP:pcs x=P) {k r s t a b:Int} {j:Nat} (h:UpTo x k r s t a b j) (hj:j<4) (hf:fP k j=true) (hl:P.length≤1+cntP k j) :
  ∀k' r' s' t' a' b',opB k' r' s' t' a' b'=true→x≠opTxt k' r' s' t' a' b':=by
 intro k' r' s' t' a' b' ho e;obtain⟨h1,_⟩:=h.eq _ _ _ _ _ _ ho e;subst h1;obtain⟨p0,p1,p2,p3⟩:=words_at hP ho e;have hn:P[1+cntP k' j]?=Option.none:=List.getElem?_eq_none hl;rcases (by omega:j=0∨j=1∨j=2∨j=3) with rfl|rfl|rfl|rfl
 ·rw [p0 (by simpa [fP] using hf)] at hn;cases hn
 ·rw [p1 (by simpa [fP] using hf)] at hn;cases hn
 ·rw [p2 (by simpa [fP] using hf)] at hn;cases hn
 ·rw [p3 (by simpa [fP] using hf)] at hn;cases hn
theorem UpTo.putR {x:List UInt8} {P:List (List UInt8)} (hP:pcs x=P) {k r s t a b n:Int} (h:UpTo x k r s t a b 0) (hf:fR k=true) (hl:1+cntP k 0<P.length)
  (hn:∀m,-99≤m→m≤99→P[1+cntP k 0]=Lib.itoa m→n=m):UpTo x k n s t a b 1:=by
 refine⟨fun k' r' s' t' a' b' ho e=>?_,fun h'=>by omega,fun _=>h.zs (by omega),fun _=>h.zt (by omega),fun _=>h.zv (by omega)⟩;obtain⟨h1,h2,h3,h4,h5⟩:=h.eq _ _ _ _ _ _ ho e;subst h1;have o:=opIs_of ho;have p0:=(words_at hP ho e).1 hf;rw [List.getElem?_eq_getElem hl] at p0;have o1:=o.r1;have o2:=o.r2
 exact⟨rfl,fun _=>(hn r' (by omega) (by omega) (Option.some.inj p0)).symm,fun h'=>by omega,fun h'=>by omega,fun h'=>by omega⟩
theorem UpTo.putS {x:List UInt8} {P:List (List UInt8)} (hP:pcs x=P) {k r s t a b n:Int} (h:UpTo x k r s t a b 1) (hf:fS k=true) (hl:1+cntP k 1<P.length)
  (hn:∀m,-99≤m→m≤99→P[1+cntP k 1]=Lib.itoa m→n=m):UpTo x k r n t a b 2:=by
 refine⟨fun k' r' s' t' a' b' ho e=>?_,fun h'=>by omega,fun h'=>by omega,fun _=>h.zt (by omega),fun _=>h.zv (by omega)⟩;obtain⟨h1,h2,h3,h4,h5⟩:=h.eq _ _ _ _ _ _ ho e;subst h1;have o:=opIs_of ho;have p0:=(words_at hP ho e).2.1 hf;rw [List.getElem?_eq_getElem hl] at p0;have o1:=o.s1;have o2:=o.s2
 exact⟨rfl,fun _=>h2 (by omega),fun _=>(hn s' (by omega) (by omega) (Option.some.inj p0)).symm,fun h'=>by omega,fun h'=>by omega⟩
theorem UpTo.putT {x:List UInt8} {P:List (List UInt8)} (hP:pcs x=P) {k r s t a b n:Int} (h:UpTo x k r s t a b 2) (hf:fT k=true) (hl:1+cntP k 2<P.length)
  (hn:∀m,-99≤m→m≤99→P[1+cntP k 2]=Lib.itoa m→n=m):UpTo x k r s n a b 3:=by
 refine⟨fun k' r' s' t' a' b' ho e=>?_,fun h'=>by omega,fun h'=>by omega,fun h'=>by omega,fun _=>h.zv (by omega)⟩;obtain⟨h1,h2,h3,h4,h5⟩:=h.eq _ _ _ _ _ _ ho e;subst h1;have o:=opIs_of ho;have p0:=(words_at hP ho e).2.2.1 hf;rw [List.getElem?_eq_getElem hl] at p0;have o1:=o.t1;have o2:=o.t2
 exact⟨rfl,fun _=>h2 (by omega),fun _=>h3 (by omega),fun _=>(hn t' (by omega) (by omega) (Option.some.inj p0)).symm,fun h'=>by omega⟩
theorem UpTo.putV {x:List UInt8} {P:List (List UInt8)} (hP:pcs x=P) {k r s t a b m n:Int} (h:UpTo x k r s t a b 3) (hf:fV k=true) (hl:1+cntP k 3<P.length)
  (hn:∀k' n',okB k' n'=true→P[1+cntP k 3]=txt k' n'→m=k'∧n=n'):UpTo x k r s t m n 4:=by
 refine⟨fun k' r' s' t' a' b' ho e=>?_,fun h'=>by omega,fun h'=>by omega,fun h'=>by omega,fun h'=>by omega⟩;obtain⟨h1,h2,h3,h4,h5⟩:=h.eq _ _ _ _ _ _ ho e;subst h1;have o:=opIs_of ho;have p0:=(words_at hP ho e).2.2.2 hf;rw [List.getElem?_eq_getElem hl] at p0;obtain⟨q1,q2⟩:=hn a' b' o.v (Option.some.inj p0);exact⟨rfl,fun _=>h2 (by omega),fun _=>h3 (by omega),fun _=>h4 (by omega),fun _=>⟨q1.symm,q2.symm⟩⟩
def namesA:Array Value:=#[.string ⟨#[]⟩,.string ⟨#[115,101,116]⟩,.string ⟨#[109,111,118,101]⟩,.string ⟨#[97,100,100]⟩,.string ⟨#[115,101,108,102]⟩,.string ⟨#[98,101,103,105,110]⟩,.string ⟨#[115,101,110,100]⟩,.string ⟨#[116,97,107,101]⟩,.string ⟨#[97,102,116,101,114]⟩,.string ⟨#[103,111]⟩,.string ⟨#[105,102]⟩,.string ⟨#[108,105,110,107]⟩,.string ⟨#[119,97,116,99,104]⟩,.string ⟨#[116,114,97,112]⟩,.string ⟨#[101,110,100]⟩]
theorem names_lit (w:World):Calls Tryz.prog 206 #[] w fun e w'=>e=.returned (.slice (some ⟨w.heap.size,0,none⟩) 15 15)∧w'=w.alloc (.cells #[.string ⟨#[]⟩,.string ⟨#[115,101,116]⟩,.string ⟨#[109,111,118,101]⟩,.string ⟨#[97,100,100]⟩,.string ⟨#[115,101,108,102]⟩,.string ⟨#[98,101,103,105,110]⟩,.string ⟨#[115,101,110,100]⟩,.string ⟨#[116,97,107,101]⟩,.string ⟨#[97,102,116,101,114]⟩,.string ⟨#[103,111]⟩,.string ⟨#[105,102]⟩,.string ⟨#[108,105,110,107]⟩,.string ⟨#[119,97,116,99,104]⟩,.string ⟨#[116,114,97,112]⟩,.string ⟨#[101,110,100]⟩] 9):=by
 go_enter Tryz.func206,Tryz.ntmps206
 go_wp2_with fail
 go_ret
 exact⟨rfl,rfl⟩
theorem names_any (w:World):Calls Tryz.prog 206 #[] w fun e w'=>e=.returned (.slice (some ⟨w.heap.size,0,none⟩) 15 15)∧w'=w.alloc (.cells namesA 9):=names_lit w
theorem namesA_at:∀n:Nat,n<15→namesA[n]?=some (.string ⟨(wordL.getD n []).toArray⟩)
 |0,_=>rfl
 |1,_=>rfl
 |2,_=>rfl
 |3,_=>rfl
 |4,_=>rfl
 |5,_=>rfl
 |6,_=>rfl
 |7,_=>rfl
 |8,_=>rfl
 |9,_=>rfl
 |10,_=>rfl
 |11,_=>rfl
 |12,_=>rfl
 |13,_=>rfl
 |14,_=>rfl
 |n+15,h=>absurd h (by omega)
theorem heap_new {w:World} {o:Obj} {n:Nat} (h:n=w.heap.size):(w.alloc o).heap[n]?=some o:=h ▸ heap_alloc_new w o
theorem forms8:∀n:Nat,n<15→1≤n→(fR (n:Int)=true∧fS (n:Int)=false∧fT (n:Int)=false∧fV (n:Int)=true)∨(fR (n:Int)=true∧fS (n:Int)=true∧fT (n:Int)=false∧fV (n:Int)=false)∨(fR (n:Int)=true∧fS (n:Int)=false∧fT (n:Int)=false∧fV (n:Int)=false)∨(fR (n:Int)=true∧fS (n:Int)=false∧fT (n:Int)=true∧fV (n:Int)=false)∨(fR (n:Int)=true∧fS (n:Int)=true∧fT (n:Int)=true∧fV (n:Int)=true)∨(fR (n:Int)=false∧fS (n:Int)=false∧fT (n:Int)=true∧fV (n:Int)=false)∨(fR (n:Int)=true∧fS (n:Int)=false∧fT (n:Int)=true∧fV (n:Int)=true)∨(fR (n:Int)=false∧fS (n:Int)=false∧fT (n:Int)=false∧fV (n:Int)=true)
 |1,_,_=>by decide
 |2,_,_=>by decide
 |3,_,_=>by decide
 |4,_,_=>by decide
 |5,_,_=>by decide
 |6,_,_=>by decide
 |7,_,_=>by decide
 |8,_,_=>by decide
 |9,_,_=>by decide
 |10,_,_=>by decide
 |11,_,_=>by decide
 |12,_,_=>by decide
 |13,_,_=>by decide
 |14,_,_=>by decide
 |0,_,h=>absurd h (by decide)
 |n+15,h,_=>absurd h (by omega)
theorem cat2 (a x:List UInt8):((⟨a.toArray⟩:ByteArray)++(⟨#[32]⟩:ByteArray))++⟨x.toArray⟩=⟨(a++32::x).toArray⟩:=by
 rw [show (⟨#[32]⟩:ByteArray)=⟨[(32:UInt8)].toArray⟩ from rfl,cat,cat];simp
theorem specOpText_bad (k r s t a b:Int) (h:opB k r s t a b=false) (w:World) :
  Calls Tryz.prog 209 #[.agg #[.int .i64 k,.int .i64 r,.int .i64 s,.int .i64 t,.int .i64 a,.int .i64 b]] w fun e w'=>e=.returned (.string ⟨(opTxt k r s t a b).toArray⟩)∧Below w.heap.size w w':=by
 rw [opTxt_bad h]
 go_enter Tryz.func209,Tryz.ntmps209
 go_wp2_with fail
 refine(specOpOk_any _ _ _ _ _ _ _).mono ?_;rintro e w1 ⟨rfl,hb1⟩;rw [h]
 go_wp2_with fail
 go_ret
 exact⟨rfl,((Below.refl _ _).alloc (Nat.le_refl _) _).trans (hb1.mono (by simp))⟩
theorem specOpText_ok (k r s t a b:Int) (h:opB k r s t a b=true) (w:World) :
  Calls Tryz.prog 209 #[.agg #[.int .i64 k,.int .i64 r,.int .i64 s,.int .i64 t,.int .i64 a,.int .i64 b]] w fun e w'=>e=.returned (.string ⟨(opTxt k r s t a b).toArray⟩)∧Below w.heap.size w w':=by
 rw [opTxt_ok h];have o:=opIs_of h;obtain⟨n,rfl⟩:∃n:Nat,k=(n:Int):=⟨k.toNat,by have:=o.k1;omega⟩;have hn1:1≤n:=by have:=o.k1;omega
 have hn2:n≤14:=by have:=o.k2;omega
 have hn3:(n:Int)<15:=by omega
 have hlw:=words_len n (by omega);have lw:(word (n:Int)).length≤5:=by unfold word;simpa using hlw
 clear hlw
 go_enter Tryz.func209,Tryz.ntmps209
 go_wp2_with fail
 refine(specOpOk_any _ _ _ _ _ _ _).mono ?_;rintro e w1 ⟨rfl,hb1⟩;rw [h];obtain⟨hc1,_⟩:=bcell hb1;have hz1:=hb1.size;simp at hz1;have d0:w1.cell? ⟨w.heap.size,0,none⟩=some (.int .i64 (n:Int)):=by rw [hc1 _ _ (by simp)];simp [go_sem]
 have d1:w1.cell? ⟨w.heap.size,1,none⟩=some (.int .i64 r):=by rw [hc1 _ _ (by simp)];simp [go_sem]
 have d2:w1.cell? ⟨w.heap.size,2,none⟩=some (.int .i64 s):=by rw [hc1 _ _ (by simp)];simp [go_sem]
 have d3:w1.cell? ⟨w.heap.size,3,none⟩=some (.int .i64 t):=by rw [hc1 _ _ (by simp)];simp [go_sem]
 have d4:w1.cell? ⟨w.heap.size,4,none⟩=some (.int .i64 a):=by rw [hc1 _ _ (by simp)];simp [go_sem]
 have d5:w1.cell? ⟨w.heap.size,5,none⟩=some (.int .i64 b):=by rw [hc1 _ _ (by simp)];simp [go_sem]
 have l0:w.heap.size<w1.heap.size:=by omega
 have l1:w.heap.size<w1.heap.size+1:=by omega
 have hB1:Below w.heap.size w w1:=((Below.refl _ _).alloc (Nat.le_refl _) _).trans (hb1.mono (by simp));clear hc1 hb1
 go_wp2_with fail
 refine(form_any (n:Int) _ (by omega) (by omega)).mono ?_;rintro e w1' ⟨rfl,rfl⟩
 go_wp2_with fail
 obtain⟨w2,hw2⟩:∃x,x=w1.alloc (formO (n:Int)):=⟨_,rfl⟩;rw [←hw2];have e0:w2.cell? ⟨w.heap.size,0,none⟩=some (.int .i64 (n:Int)):=by rw [hw2];simp [go_sem,d0,l0]
 have e1:w2.cell? ⟨w.heap.size,1,none⟩=some (.int .i64 r):=by rw [hw2];simp [go_sem,d1,l0]
 have e2:w2.cell? ⟨w.heap.size,2,none⟩=some (.int .i64 s):=by rw [hw2];simp [go_sem,d2,l0]
 have e3:w2.cell? ⟨w.heap.size,3,none⟩=some (.int .i64 t):=by rw [hw2];simp [go_sem,d3,l0]
 have e4:w2.cell? ⟨w.heap.size,4,none⟩=some (.int .i64 a):=by rw [hw2];simp [go_sem,d4,l0]
 have e5:w2.cell? ⟨w.heap.size,5,none⟩=some (.int .i64 b):=by rw [hw2];simp [go_sem,d5,l0]
 have f0:w2.cell? ⟨w1.heap.size,0,none⟩=some (.bool (fR (n:Int))):=by rw [hw2];simp [go_sem,formO]
 have f1:w2.cell? ⟨w1.heap.size,1,none⟩=some (.bool (fS (n:Int))):=by rw [hw2];simp [go_sem,formO]
 have f2:w2.cell? ⟨w1.heap.size,2,none⟩=some (.bool (fT (n:Int))):=by rw [hw2];simp [go_sem,formO]
 have f3:w2.cell? ⟨w1.heap.size,3,none⟩=some (.bool (fV (n:Int))):=by rw [hw2];simp [go_sem,formO]
 have hz2:w1.heap.size<w2.heap.size:=by rw [hw2];simp
 have m0:w.heap.size<w2.heap.size:=by omega
 have hB2:Below w.heap.size w w2:=by rw [hw2];exact hB1.alloc (by omega) _
 clear hw2 l0 l1 d0 d1 d2 d3 d4 d5;have hcell:∀Y:World,Y.heap.size=w2.heap.size→(Y.alloc (.cells namesA 9)).cell? ⟨w2.heap.size,n,none⟩=some (.string ⟨(word (n:Int)).toArray⟩):=fun Y hY=>by
  rw [cell_of_row _ _ n _ _ _ (heap_new (w:=Y) (o:=.cells namesA 9) (n:=w2.heap.size) hY.symm),namesA_at n (by omega)];rfl
 rename_i K hKK
 have hK:K { tmps:=#[.agg #[.int .i64 (n:Int),.int .i64 r,.int .i64 s,.int .i64 t,.int .i64 a,.int .i64 b],.pointer (some ⟨w.heap.size,0,none⟩),.string ⟨#[]⟩,.slice (some ⟨w1.heap.size,0,none⟩) 4 4,.string ⟨(word (n:Int)).toArray⟩,.agg #[.int .i64 (n:Int),.int .i64 r,.int .i64 s,.int .i64 t,.int .i64 a,.int .i64 b],.bool true,.bool false,.pointer (some ⟨w.heap.size,0,none⟩),.int .i64 (n:Int),.slice (some ⟨w1.heap.size,0,none⟩) 4 4,.slice (some ⟨w2.heap.size,0,none⟩) 15 15,.pointer (some ⟨w.heap.size,0,none⟩),.int .i64 (n:Int),.pointer (some ⟨w2.heap.size,n,none⟩),.string ⟨(word (n:Int)).toArray⟩,undef,undef,undef,undef,undef,undef,undef,undef,undef,undef,undef,undef,undef,undef,undef,undef,undef,undef,undef,undef,undef,undef,undef,undef,undef,undef,undef,undef,undef,undef,undef,undef,undef,undef,undef,undef,undef],defers:=[] } (w2.alloc (.cells namesA 9)).drew:=by
  refine hKK _ _ ?_;obtain⟨w3,hw3⟩:∃x,x=(w2.alloc (.cells namesA 9)).drew:=⟨_,rfl⟩;rw [←hw3];replace e0:w3.cell? ⟨w.heap.size,0,none⟩=some (.int .i64 (n:Int)):=by rw [hw3];simp [go_sem,e0,m0]
  replace e1:w3.cell? ⟨w.heap.size,1,none⟩=some (.int .i64 r):=by rw [hw3];simp [go_sem,e1,m0]
  replace e2:w3.cell? ⟨w.heap.size,2,none⟩=some (.int .i64 s):=by rw [hw3];simp [go_sem,e2,m0]
  replace e3:w3.cell? ⟨w.heap.size,3,none⟩=some (.int .i64 t):=by rw [hw3];simp [go_sem,e3,m0]
  replace e4:w3.cell? ⟨w.heap.size,4,none⟩=some (.int .i64 a):=by rw [hw3];simp [go_sem,e4,m0]
  replace e5:w3.cell? ⟨w.heap.size,5,none⟩=some (.int .i64 b):=by rw [hw3];simp [go_sem,e5,m0]
  replace f0:w3.cell? ⟨w1.heap.size,0,none⟩=some (.bool (fR (n:Int))):=by rw [hw3];simp [go_sem,f0,hz2]
  replace f1:w3.cell? ⟨w1.heap.size,1,none⟩=some (.bool (fS (n:Int))):=by rw [hw3];simp [go_sem,f1,hz2]
  replace f2:w3.cell? ⟨w1.heap.size,2,none⟩=some (.bool (fT (n:Int))):=by rw [hw3];simp [go_sem,f2,hz2]
  replace f3:w3.cell? ⟨w1.heap.size,3,none⟩=some (.bool (fV (n:Int))):=by rw [hw3];simp [go_sem,f3,hz2]
  have hz3:w1.heap.size<w3.heap.size:=by rw [hw3];simp;omega
  have m3:w.heap.size<w3.heap.size:=by rw [hw3];simp;omega
  have hB3:Below w.heap.size w w3:=by rw [hw3];exact(hB2.alloc (by omega) _).drew
  clear hw3 hcell hB2;rcases forms8 n (by omega) hn1 with⟨hR,hS,hT,hV⟩|⟨hR,hS,hT,hV⟩|⟨hR,hS,hT,hV⟩|⟨hR,hS,hT,hV⟩|⟨hR,hS,hT,hV⟩|⟨hR,hS,hT,hV⟩|⟨hR,hS,hT,hV⟩|⟨hR,hS,hT,hV⟩
  ·rw [hR] at f0;rw [hS] at f1;rw [hT] at f2;rw [hV] at f3
   go_wp2_with fail
   refine(dec_any r _ (by have:=o.r1;omega) (by have:=o.r2;omega)).mono ?_;rintro e w4 ⟨rfl,hb4⟩;obtain⟨hc4,_⟩:=bcell hb4;have hz4:=hb4.size;replace e0:w4.cell? ⟨w.heap.size,0,none⟩=some (.int .i64 (n:Int)):=by rw [hc4 _ _ (by omega)];exact e0
   replace e1:w4.cell? ⟨w.heap.size,1,none⟩=some (.int .i64 r):=by rw [hc4 _ _ (by omega)];exact e1
   replace e2:w4.cell? ⟨w.heap.size,2,none⟩=some (.int .i64 s):=by rw [hc4 _ _ (by omega)];exact e2
   replace e3:w4.cell? ⟨w.heap.size,3,none⟩=some (.int .i64 t):=by rw [hc4 _ _ (by omega)];exact e3
   replace e4:w4.cell? ⟨w.heap.size,4,none⟩=some (.int .i64 a):=by rw [hc4 _ _ (by omega)];exact e4
   replace e5:w4.cell? ⟨w.heap.size,5,none⟩=some (.int .i64 b):=by rw [hc4 _ _ (by omega)];exact e5
   replace f0:w4.cell? ⟨w1.heap.size,0,none⟩=some (.bool true):=by rw [hc4 _ _ (by omega)];exact f0
   replace f1:w4.cell? ⟨w1.heap.size,1,none⟩=some (.bool false):=by rw [hc4 _ _ (by omega)];exact f1
   replace f2:w4.cell? ⟨w1.heap.size,2,none⟩=some (.bool false):=by rw [hc4 _ _ (by omega)];exact f2
   replace f3:w4.cell? ⟨w1.heap.size,3,none⟩=some (.bool true):=by rw [hc4 _ _ (by omega)];exact f3
   have hB4:Below w.heap.size w w4:=hB3.trans (hb4.mono (by omega));clear hc4 hb4;have lX0:(Lib.itoa r).length≤20:=by have:=itoa_len r (by have:=o.r1;omega) (by have:=o.r2;omega);omega
   go_wp2_with fail
   refine(specText_any a b _).mono ?_;rintro e w5 ⟨rfl,hb5⟩;obtain⟨hc5,_⟩:=bcell hb5;have hz5:=hb5.size;replace e0:w5.cell? ⟨w.heap.size,0,none⟩=some (.int .i64 (n:Int)):=by rw [hc5 _ _ (by omega)];exact e0
   replace e1:w5.cell? ⟨w.heap.size,1,none⟩=some (.int .i64 r):=by rw [hc5 _ _ (by omega)];exact e1
   replace e2:w5.cell? ⟨w.heap.size,2,none⟩=some (.int .i64 s):=by rw [hc5 _ _ (by omega)];exact e2
   replace e3:w5.cell? ⟨w.heap.size,3,none⟩=some (.int .i64 t):=by rw [hc5 _ _ (by omega)];exact e3
   replace e4:w5.cell? ⟨w.heap.size,4,none⟩=some (.int .i64 a):=by rw [hc5 _ _ (by omega)];exact e4
   replace e5:w5.cell? ⟨w.heap.size,5,none⟩=some (.int .i64 b):=by rw [hc5 _ _ (by omega)];exact e5
   replace f0:w5.cell? ⟨w1.heap.size,0,none⟩=some (.bool true):=by rw [hc5 _ _ (by omega)];exact f0
   replace f1:w5.cell? ⟨w1.heap.size,1,none⟩=some (.bool false):=by rw [hc5 _ _ (by omega)];exact f1
   replace f2:w5.cell? ⟨w1.heap.size,2,none⟩=some (.bool false):=by rw [hc5 _ _ (by omega)];exact f2
   replace f3:w5.cell? ⟨w1.heap.size,3,none⟩=some (.bool true):=by rw [hc5 _ _ (by omega)];exact f3
   have hB5:Below w.heap.size w w5:=hB4.trans (hb5.mono (by omega));clear hc5 hb5;have lX3:(txt a b).length≤20:=by have:=txt_len o.v;omega
   go_wp2_with fail
   go_ret
   exact⟨congrArg (fun x=>Ending.returned (.string x)) (by rw [cat2,cat2];simp [opTail,part,hR,hS,hT,hV]),hB5⟩
  ·rw [hR] at f0;rw [hS] at f1;rw [hT] at f2;rw [hV] at f3
   go_wp2_with fail
   refine(dec_any r _ (by have:=o.r1;omega) (by have:=o.r2;omega)).mono ?_;rintro e w4 ⟨rfl,hb4⟩;obtain⟨hc4,_⟩:=bcell hb4;have hz4:=hb4.size;replace e0:w4.cell? ⟨w.heap.size,0,none⟩=some (.int .i64 (n:Int)):=by rw [hc4 _ _ (by omega)];exact e0
   replace e1:w4.cell? ⟨w.heap.size,1,none⟩=some (.int .i64 r):=by rw [hc4 _ _ (by omega)];exact e1
   replace e2:w4.cell? ⟨w.heap.size,2,none⟩=some (.int .i64 s):=by rw [hc4 _ _ (by omega)];exact e2
   replace e3:w4.cell? ⟨w.heap.size,3,none⟩=some (.int .i64 t):=by rw [hc4 _ _ (by omega)];exact e3
   replace e4:w4.cell? ⟨w.heap.size,4,none⟩=some (.int .i64 a):=by rw [hc4 _ _ (by omega)];exact e4
   replace e5:w4.cell? ⟨w.heap.size,5,none⟩=some (.int .i64 b):=by rw [hc4 _ _ (by omega)];exact e5
   replace f0:w4.cell? ⟨w1.heap.size,0,none⟩=some (.bool true):=by rw [hc4 _ _ (by omega)];exact f0
   replace f1:w4.cell? ⟨w1.heap.size,1,none⟩=some (.bool true):=by rw [hc4 _ _ (by omega)];exact f1
   replace f2:w4.cell? ⟨w1.heap.size,2,none⟩=some (.bool false):=by rw [hc4 _ _ (by omega)];exact f2
   replace f3:w4.cell? ⟨w1.heap.size,3,none⟩=some (.bool false):=by rw [hc4 _ _ (by omega)];exact f3
   have hB4:Below w.heap.size w w4:=hB3.trans (hb4.mono (by omega));clear hc4 hb4;have lX0:(Lib.itoa r).length≤20:=by have:=itoa_len r (by have:=o.r1;omega) (by have:=o.r2;omega);omega
   go_wp2_with fail
   refine(dec_any s _ (by have:=o.s1;omega) (by have:=o.s2;omega)).mono ?_;rintro e w5 ⟨rfl,hb5⟩;obtain⟨hc5,_⟩:=bcell hb5;have hz5:=hb5.size;replace e0:w5.cell? ⟨w.heap.size,0,none⟩=some (.int .i64 (n:Int)):=by rw [hc5 _ _ (by omega)];exact e0
   replace e1:w5.cell? ⟨w.heap.size,1,none⟩=some (.int .i64 r):=by rw [hc5 _ _ (by omega)];exact e1
   replace e2:w5.cell? ⟨w.heap.size,2,none⟩=some (.int .i64 s):=by rw [hc5 _ _ (by omega)];exact e2
   replace e3:w5.cell? ⟨w.heap.size,3,none⟩=some (.int .i64 t):=by rw [hc5 _ _ (by omega)];exact e3
   replace e4:w5.cell? ⟨w.heap.size,4,none⟩=some (.int .i64 a):=by rw [hc5 _ _ (by omega)];exact e4
   replace e5:w5.cell? ⟨w.heap.size,5,none⟩=some (.int .i64 b):=by rw [hc5 _ _ (by omega)];exact e5
   replace f0:w5.cell? ⟨w1.heap.size,0,none⟩=some (.bool true):=by rw [hc5 _ _ (by omega)];exact f0
   replace f1:w5.cell? ⟨w1.heap.size,1,none⟩=some (.bool true):=by rw [hc5 _ _ (by omega)];exact f1
   replace f2:w5.cell? ⟨w1.heap.size,2,none⟩=some (.bool false):=by rw [hc5 _ _ (by omega)];exact f2
   replace f3:w5.cell? ⟨w1.heap.size,3,none⟩=some (.bool false):=by rw [hc5 _ _ (by omega)];exact f3
   have hB5:Below w.heap.size w w5:=hB4.trans (hb5.mono (by omega));clear hc5 hb5;have lX1:(Lib.itoa s).length≤20:=by have:=itoa_len s (by have:=o.s1;omega) (by have:=o.s2;omega);omega
   go_wp2_with fail
   go_ret
   exact⟨congrArg (fun x=>Ending.returned (.string x)) (by rw [cat2,cat2];simp [opTail,part,hR,hS,hT,hV]),hB5⟩
  ·rw [hR] at f0;rw [hS] at f1;rw [hT] at f2;rw [hV] at f3
   go_wp2_with fail
   refine(dec_any r _ (by have:=o.r1;omega) (by have:=o.r2;omega)).mono ?_;rintro e w4 ⟨rfl,hb4⟩;obtain⟨hc4,_⟩:=bcell hb4;have hz4:=hb4.size;replace e0:w4.cell? ⟨w.heap.size,0,none⟩=some (.int .i64 (n:Int)):=by rw [hc4 _ _ (by omega)];exact e0
   replace e1:w4.cell? ⟨w.heap.size,1,none⟩=some (.int .i64 r):=by rw [hc4 _ _ (by omega)];exact e1
   replace e2:w4.cell? ⟨w.heap.size,2,none⟩=some (.int .i64 s):=by rw [hc4 _ _ (by omega)];exact e2
   replace e3:w4.cell? ⟨w.heap.size,3,none⟩=some (.int .i64 t):=by rw [hc4 _ _ (by omega)];exact e3
   replace e4:w4.cell? ⟨w.heap.size,4,none⟩=some (.int .i64 a):=by rw [hc4 _ _ (by omega)];exact e4
   replace e5:w4.cell? ⟨w.heap.size,5,none⟩=some (.int .i64 b):=by rw [hc4 _ _ (by omega)];exact e5
   replace f0:w4.cell? ⟨w1.heap.size,0,none⟩=some (.bool true):=by rw [hc4 _ _ (by omega)];exact f0
   replace f1:w4.cell? ⟨w1.heap.size,1,none⟩=some (.bool false):=by rw [hc4 _ _ (by omega)];exact f1
   replace f2:w4.cell? ⟨w1.heap.size,2,none⟩=some (.bool false):=by rw [hc4 _ _ (by omega)];exact f2
   replace f3:w4.cell? ⟨w1.heap.size,3,none⟩=some (.bool false):=by rw [hc4 _ _ (by omega)];exact f3
   have hB4:Below w.heap.size w w4:=hB3.trans (hb4.mono (by omega));clear hc4 hb4;have lX0:(Lib.itoa r).length≤20:=by have:=itoa_len r (by have:=o.r1;omega) (by have:=o.r2;omega);omega
   go_wp2_with fail
   go_ret
   exact⟨congrArg (fun x=>Ending.returned (.string x)) (by rw [cat2];simp [opTail,part,hR,hS,hT,hV]),hB4⟩
  ·rw [hR] at f0;rw [hS] at f1;rw [hT] at f2;rw [hV] at f3
   go_wp2_with fail
   refine(dec_any r _ (by have:=o.r1;omega) (by have:=o.r2;omega)).mono ?_;rintro e w4 ⟨rfl,hb4⟩;obtain⟨hc4,_⟩:=bcell hb4;have hz4:=hb4.size;replace e0:w4.cell? ⟨w.heap.size,0,none⟩=some (.int .i64 (n:Int)):=by rw [hc4 _ _ (by omega)];exact e0
   replace e1:w4.cell? ⟨w.heap.size,1,none⟩=some (.int .i64 r):=by rw [hc4 _ _ (by omega)];exact e1
   replace e2:w4.cell? ⟨w.heap.size,2,none⟩=some (.int .i64 s):=by rw [hc4 _ _ (by omega)];exact e2
   replace e3:w4.cell? ⟨w.heap.size,3,none⟩=some (.int .i64 t):=by rw [hc4 _ _ (by omega)];exact e3
   replace e4:w4.cell? ⟨w.heap.size,4,none⟩=some (.int .i64 a):=by rw [hc4 _ _ (by omega)];exact e4
   replace e5:w4.cell? ⟨w.heap.size,5,none⟩=some (.int .i64 b):=by rw [hc4 _ _ (by omega)];exact e5
   replace f0:w4.cell? ⟨w1.heap.size,0,none⟩=some (.bool true):=by rw [hc4 _ _ (by omega)];exact f0
   replace f1:w4.cell? ⟨w1.heap.size,1,none⟩=some (.bool false):=by rw [hc4 _ _ (by omega)];exact f1
   replace f2:w4.cell? ⟨w1.heap.size,2,none⟩=some (.bool true):=by rw [hc4 _ _ (by omega)];exact f2
   replace f3:w4.cell? ⟨w1.heap.size,3,none⟩=some (.bool false):=by rw [hc4 _ _ (by omega)];exact f3
   have hB4:Below w.heap.size w w4:=hB3.trans (hb4.mono (by omega));clear hc4 hb4;have lX0:(Lib.itoa r).length≤20:=by have:=itoa_len r (by have:=o.r1;omega) (by have:=o.r2;omega);omega
   go_wp2_with fail
   refine(dec_any t _ (by have:=o.t1;omega) (by have:=o.t2;omega)).mono ?_;rintro e w5 ⟨rfl,hb5⟩;obtain⟨hc5,_⟩:=bcell hb5;have hz5:=hb5.size;replace e0:w5.cell? ⟨w.heap.size,0,none⟩=some (.int .i64 (n:Int)):=by rw [hc5 _ _ (by omega)];exact e0
   replace e1:w5.cell? ⟨w.heap.size,1,none⟩=some (.int .i64 r):=by rw [hc5 _ _ (by omega)];exact e1
   replace e2:w5.cell? ⟨w.heap.size,2,none⟩=some (.int .i64 s):=by rw [hc5 _ _ (by omega)];exact e2
   replace e3:w5.cell? ⟨w.heap.size,3,none⟩=some (.int .i64 t):=by rw [hc5 _ _ (by omega)];exact e3
   replace e4:w5.cell? ⟨w.heap.size,4,none⟩=some (.int .i64 a):=by rw [hc5 _ _ (by omega)];exact e4
   replace e5:w5.cell? ⟨w.heap.size,5,none⟩=some (.int .i64 b):=by rw [hc5 _ _ (by omega)];exact e5
   replace f0:w5.cell? ⟨w1.heap.size,0,none⟩=some (.bool true):=by rw [hc5 _ _ (by omega)];exact f0
   replace f1:w5.cell? ⟨w1.heap.size,1,none⟩=some (.bool false):=by rw [hc5 _ _ (by omega)];exact f1
   replace f2:w5.cell? ⟨w1.heap.size,2,none⟩=some (.bool true):=by rw [hc5 _ _ (by omega)];exact f2
   replace f3:w5.cell? ⟨w1.heap.size,3,none⟩=some (.bool false):=by rw [hc5 _ _ (by omega)];exact f3
   have hB5:Below w.heap.size w w5:=hB4.trans (hb5.mono (by omega));clear hc5 hb5;have lX2:(Lib.itoa t).length≤20:=by have:=itoa_len t (by have:=o.t1;omega) (by have:=o.t2;omega);omega
   go_wp2_with fail
   go_ret
   exact⟨congrArg (fun x=>Ending.returned (.string x)) (by rw [cat2,cat2];simp [opTail,part,hR,hS,hT,hV]),hB5⟩
  ·rw [hR] at f0;rw [hS] at f1;rw [hT] at f2;rw [hV] at f3
   go_wp2_with fail
   refine(dec_any r _ (by have:=o.r1;omega) (by have:=o.r2;omega)).mono ?_;rintro e w4 ⟨rfl,hb4⟩;obtain⟨hc4,_⟩:=bcell hb4;have hz4:=hb4.size;replace e0:w4.cell? ⟨w.heap.size,0,none⟩=some (.int .i64 (n:Int)):=by rw [hc4 _ _ (by omega)];exact e0
   replace e1:w4.cell? ⟨w.heap.size,1,none⟩=some (.int .i64 r):=by rw [hc4 _ _ (by omega)];exact e1
   replace e2:w4.cell? ⟨w.heap.size,2,none⟩=some (.int .i64 s):=by rw [hc4 _ _ (by omega)];exact e2
   replace e3:w4.cell? ⟨w.heap.size,3,none⟩=some (.int .i64 t):=by rw [hc4 _ _ (by omega)];exact e3
   replace e4:w4.cell? ⟨w.heap.size,4,none⟩=some (.int .i64 a):=by rw [hc4 _ _ (by omega)];exact e4
   replace e5:w4.cell? ⟨w.heap.size,5,none⟩=some (.int .i64 b):=by rw [hc4 _ _ (by omega)];exact e5
   replace f0:w4.cell? ⟨w1.heap.size,0,none⟩=some (.bool true):=by rw [hc4 _ _ (by omega)];exact f0
   replace f1:w4.cell? ⟨w1.heap.size,1,none⟩=some (.bool true):=by rw [hc4 _ _ (by omega)];exact f1
   replace f2:w4.cell? ⟨w1.heap.size,2,none⟩=some (.bool true):=by rw [hc4 _ _ (by omega)];exact f2
   replace f3:w4.cell? ⟨w1.heap.size,3,none⟩=some (.bool true):=by rw [hc4 _ _ (by omega)];exact f3
   have hB4:Below w.heap.size w w4:=hB3.trans (hb4.mono (by omega));clear hc4 hb4;have lX0:(Lib.itoa r).length≤20:=by have:=itoa_len r (by have:=o.r1;omega) (by have:=o.r2;omega);omega
   go_wp2_with fail
   refine(dec_any s _ (by have:=o.s1;omega) (by have:=o.s2;omega)).mono ?_;rintro e w5 ⟨rfl,hb5⟩;obtain⟨hc5,_⟩:=bcell hb5;have hz5:=hb5.size;replace e0:w5.cell? ⟨w.heap.size,0,none⟩=some (.int .i64 (n:Int)):=by rw [hc5 _ _ (by omega)];exact e0
   replace e1:w5.cell? ⟨w.heap.size,1,none⟩=some (.int .i64 r):=by rw [hc5 _ _ (by omega)];exact e1
   replace e2:w5.cell? ⟨w.heap.size,2,none⟩=some (.int .i64 s):=by rw [hc5 _ _ (by omega)];exact e2
   replace e3:w5.cell? ⟨w.heap.size,3,none⟩=some (.int .i64 t):=by rw [hc5 _ _ (by omega)];exact e3
   replace e4:w5.cell? ⟨w.heap.size,4,none⟩=some (.int .i64 a):=by rw [hc5 _ _ (by omega)];exact e4
   replace e5:w5.cell? ⟨w.heap.size,5,none⟩=some (.int .i64 b):=by rw [hc5 _ _ (by omega)];exact e5
   replace f0:w5.cell? ⟨w1.heap.size,0,none⟩=some (.bool true):=by rw [hc5 _ _ (by omega)];exact f0
   replace f1:w5.cell? ⟨w1.heap.size,1,none⟩=some (.bool true):=by rw [hc5 _ _ (by omega)];exact f1
   replace f2:w5.cell? ⟨w1.heap.size,2,none⟩=some (.bool true):=by rw [hc5 _ _ (by omega)];exact f2
   replace f3:w5.cell? ⟨w1.heap.size,3,none⟩=some (.bool true):=by rw [hc5 _ _ (by omega)];exact f3
   have hB5:Below w.heap.size w w5:=hB4.trans (hb5.mono (by omega));clear hc5 hb5;have lX1:(Lib.itoa s).length≤20:=by have:=itoa_len s (by have:=o.s1;omega) (by have:=o.s2;omega);omega
   go_wp2_with fail
   refine(dec_any t _ (by have:=o.t1;omega) (by have:=o.t2;omega)).mono ?_;rintro e w6 ⟨rfl,hb6⟩;obtain⟨hc6,_⟩:=bcell hb6;have hz6:=hb6.size;replace e0:w6.cell? ⟨w.heap.size,0,none⟩=some (.int .i64 (n:Int)):=by rw [hc6 _ _ (by omega)];exact e0
   replace e1:w6.cell? ⟨w.heap.size,1,none⟩=some (.int .i64 r):=by rw [hc6 _ _ (by omega)];exact e1
   replace e2:w6.cell? ⟨w.heap.size,2,none⟩=some (.int .i64 s):=by rw [hc6 _ _ (by omega)];exact e2
   replace e3:w6.cell? ⟨w.heap.size,3,none⟩=some (.int .i64 t):=by rw [hc6 _ _ (by omega)];exact e3
   replace e4:w6.cell? ⟨w.heap.size,4,none⟩=some (.int .i64 a):=by rw [hc6 _ _ (by omega)];exact e4
   replace e5:w6.cell? ⟨w.heap.size,5,none⟩=some (.int .i64 b):=by rw [hc6 _ _ (by omega)];exact e5
   replace f0:w6.cell? ⟨w1.heap.size,0,none⟩=some (.bool true):=by rw [hc6 _ _ (by omega)];exact f0
   replace f1:w6.cell? ⟨w1.heap.size,1,none⟩=some (.bool true):=by rw [hc6 _ _ (by omega)];exact f1
   replace f2:w6.cell? ⟨w1.heap.size,2,none⟩=some (.bool true):=by rw [hc6 _ _ (by omega)];exact f2
   replace f3:w6.cell? ⟨w1.heap.size,3,none⟩=some (.bool true):=by rw [hc6 _ _ (by omega)];exact f3
   have hB6:Below w.heap.size w w6:=hB5.trans (hb6.mono (by omega));clear hc6 hb6;have lX2:(Lib.itoa t).length≤20:=by have:=itoa_len t (by have:=o.t1;omega) (by have:=o.t2;omega);omega
   go_wp2_with fail
   refine(specText_any a b _).mono ?_;rintro e w7 ⟨rfl,hb7⟩;obtain⟨hc7,_⟩:=bcell hb7;have hz7:=hb7.size;replace e0:w7.cell? ⟨w.heap.size,0,none⟩=some (.int .i64 (n:Int)):=by rw [hc7 _ _ (by omega)];exact e0
   replace e1:w7.cell? ⟨w.heap.size,1,none⟩=some (.int .i64 r):=by rw [hc7 _ _ (by omega)];exact e1
   replace e2:w7.cell? ⟨w.heap.size,2,none⟩=some (.int .i64 s):=by rw [hc7 _ _ (by omega)];exact e2
   replace e3:w7.cell? ⟨w.heap.size,3,none⟩=some (.int .i64 t):=by rw [hc7 _ _ (by omega)];exact e3
   replace e4:w7.cell? ⟨w.heap.size,4,none⟩=some (.int .i64 a):=by rw [hc7 _ _ (by omega)];exact e4
   replace e5:w7.cell? ⟨w.heap.size,5,none⟩=some (.int .i64 b):=by rw [hc7 _ _ (by omega)];exact e5
   replace f0:w7.cell? ⟨w1.heap.size,0,none⟩=some (.bool true):=by rw [hc7 _ _ (by omega)];exact f0
   replace f1:w7.cell? ⟨w1.heap.size,1,none⟩=some (.bool true):=by rw [hc7 _ _ (by omega)];exact f1
   replace f2:w7.cell? ⟨w1.heap.size,2,none⟩=some (.bool true):=by rw [hc7 _ _ (by omega)];exact f2
   replace f3:w7.cell? ⟨w1.heap.size,3,none⟩=some (.bool true):=by rw [hc7 _ _ (by omega)];exact f3
   have hB7:Below w.heap.size w w7:=hB6.trans (hb7.mono (by omega));clear hc7 hb7;have lX3:(txt a b).length≤20:=by have:=txt_len o.v;omega
   go_wp2_with fail
   go_ret
   exact⟨congrArg (fun x=>Ending.returned (.string x)) (by rw [cat2,cat2,cat2,cat2];simp [opTail,part,hR,hS,hT,hV]),hB7⟩
  ·rw [hR] at f0;rw [hS] at f1;rw [hT] at f2;rw [hV] at f3
   go_wp2_with fail
   refine(dec_any t _ (by have:=o.t1;omega) (by have:=o.t2;omega)).mono ?_;rintro e w4 ⟨rfl,hb4⟩;obtain⟨hc4,_⟩:=bcell hb4;have hz4:=hb4.size;replace e0:w4.cell? ⟨w.heap.size,0,none⟩=some (.int .i64 (n:Int)):=by rw [hc4 _ _ (by omega)];exact e0
   replace e1:w4.cell? ⟨w.heap.size,1,none⟩=some (.int .i64 r):=by rw [hc4 _ _ (by omega)];exact e1
   replace e2:w4.cell? ⟨w.heap.size,2,none⟩=some (.int .i64 s):=by rw [hc4 _ _ (by omega)];exact e2
   replace e3:w4.cell? ⟨w.heap.size,3,none⟩=some (.int .i64 t):=by rw [hc4 _ _ (by omega)];exact e3
   replace e4:w4.cell? ⟨w.heap.size,4,none⟩=some (.int .i64 a):=by rw [hc4 _ _ (by omega)];exact e4
   replace e5:w4.cell? ⟨w.heap.size,5,none⟩=some (.int .i64 b):=by rw [hc4 _ _ (by omega)];exact e5
   replace f0:w4.cell? ⟨w1.heap.size,0,none⟩=some (.bool false):=by rw [hc4 _ _ (by omega)];exact f0
   replace f1:w4.cell? ⟨w1.heap.size,1,none⟩=some (.bool false):=by rw [hc4 _ _ (by omega)];exact f1
   replace f2:w4.cell? ⟨w1.heap.size,2,none⟩=some (.bool true):=by rw [hc4 _ _ (by omega)];exact f2
   replace f3:w4.cell? ⟨w1.heap.size,3,none⟩=some (.bool false):=by rw [hc4 _ _ (by omega)];exact f3
   have hB4:Below w.heap.size w w4:=hB3.trans (hb4.mono (by omega));clear hc4 hb4;have lX2:(Lib.itoa t).length≤20:=by have:=itoa_len t (by have:=o.t1;omega) (by have:=o.t2;omega);omega
   go_wp2_with fail
   go_ret
   exact⟨congrArg (fun x=>Ending.returned (.string x)) (by rw [cat2];simp [opTail,part,hR,hS,hT,hV]),hB4⟩
  ·rw [hR] at f0;rw [hS] at f1;rw [hT] at f2;rw [hV] at f3
   go_wp2_with fail
   refine(dec_any r _ (by have:=o.r1;omega) (by have:=o.r2;omega)).mono ?_;rintro e w4 ⟨rfl,hb4⟩;obtain⟨hc4,_⟩:=bcell hb4;have hz4:=hb4.size;replace e0:w4.cell? ⟨w.heap.size,0,none⟩=some (.int .i64 (n:Int)):=by rw [hc4 _ _ (by omega)];exact e0
   replace e1:w4.cell? ⟨w.heap.size,1,none⟩=some (.int .i64 r):=by rw [hc4 _ _ (by omega)];exact e1
   replace e2:w4.cell? ⟨w.heap.size,2,none⟩=some (.int .i64 s):=by rw [hc4 _ _ (by omega)];exact e2
   replace e3:w4.cell? ⟨w.heap.size,3,none⟩=some (.int .i64 t):=by rw [hc4 _ _ (by omega)];exact e3
   replace e4:w4.cell? ⟨w.heap.size,4,none⟩=some (.int .i64 a):=by rw [hc4 _ _ (by omega)];exact e4
   replace e5:w4.cell? ⟨w.heap.size,5,none⟩=some (.int .i64 b):=by rw [hc4 _ _ (by omega)];exact e5
   replace f0:w4.cell? ⟨w1.heap.size,0,none⟩=some (.bool true):=by rw [hc4 _ _ (by omega)];exact f0
   replace f1:w4.cell? ⟨w1.heap.size,1,none⟩=some (.bool false):=by rw [hc4 _ _ (by omega)];exact f1
   replace f2:w4.cell? ⟨w1.heap.size,2,none⟩=some (.bool true):=by rw [hc4 _ _ (by omega)];exact f2
   replace f3:w4.cell? ⟨w1.heap.size,3,none⟩=some (.bool true):=by rw [hc4 _ _ (by omega)];exact f3
   have hB4:Below w.heap.size w w4:=hB3.trans (hb4.mono (by omega));clear hc4 hb4;have lX0:(Lib.itoa r).length≤20:=by have:=itoa_len r (by have:=o.r1;omega) (by have:=o.r2;omega);omega
   go_wp2_with fail
   refine(dec_any t _ (by have:=o.t1;omega) (by have:=o.t2;omega)).mono ?_;rintro e w5 ⟨rfl,hb5⟩;obtain⟨hc5,_⟩:=bcell hb5;have hz5:=hb5.size;replace e0:w5.cell? ⟨w.heap.size,0,none⟩=some (.int .i64 (n:Int)):=by rw [hc5 _ _ (by omega)];exact e0
   replace e1:w5.cell? ⟨w.heap.size,1,none⟩=some (.int .i64 r):=by rw [hc5 _ _ (by omega)];exact e1
   replace e2:w5.cell? ⟨w.heap.size,2,none⟩=some (.int .i64 s):=by rw [hc5 _ _ (by omega)];exact e2
   replace e3:w5.cell? ⟨w.heap.size,3,none⟩=some (.int .i64 t):=by rw [hc5 _ _ (by omega)];exact e3
   replace e4:w5.cell? ⟨w.heap.size,4,none⟩=some (.int .i64 a):=by rw [hc5 _ _ (by omega)];exact e4
   replace e5:w5.cell? ⟨w.heap.size,5,none⟩=some (.int .i64 b):=by rw [hc5 _ _ (by omega)];exact e5
   replace f0:w5.cell? ⟨w1.heap.size,0,none⟩=some (.bool true):=by rw [hc5 _ _ (by omega)];exact f0
   replace f1:w5.cell? ⟨w1.heap.size,1,none⟩=some (.bool false):=by rw [hc5 _ _ (by omega)];exact f1
   replace f2:w5.cell? ⟨w1.heap.size,2,none⟩=some (.bool true):=by rw [hc5 _ _ (by omega)];exact f2
   replace f3:w5.cell? ⟨w1.heap.size,3,none⟩=some (.bool true):=by rw [hc5 _ _ (by omega)];exact f3
   have hB5:Below w.heap.size w w5:=hB4.trans (hb5.mono (by omega));clear hc5 hb5;have lX2:(Lib.itoa t).length≤20:=by have:=itoa_len t (by have:=o.t1;omega) (by have:=o.t2;omega);omega
   go_wp2_with fail
   refine(specText_any a b _).mono ?_;rintro e w6 ⟨rfl,hb6⟩;obtain⟨hc6,_⟩:=bcell hb6;have hz6:=hb6.size;replace e0:w6.cell? ⟨w.heap.size,0,none⟩=some (.int .i64 (n:Int)):=by rw [hc6 _ _ (by omega)];exact e0
   replace e1:w6.cell? ⟨w.heap.size,1,none⟩=some (.int .i64 r):=by rw [hc6 _ _ (by omega)];exact e1
   replace e2:w6.cell? ⟨w.heap.size,2,none⟩=some (.int .i64 s):=by rw [hc6 _ _ (by omega)];exact e2
   replace e3:w6.cell? ⟨w.heap.size,3,none⟩=some (.int .i64 t):=by rw [hc6 _ _ (by omega)];exact e3
   replace e4:w6.cell? ⟨w.heap.size,4,none⟩=some (.int .i64 a):=by rw [hc6 _ _ (by omega)];exact e4
   replace e5:w6.cell? ⟨w.heap.size,5,none⟩=some (.int .i64 b):=by rw [hc6 _ _ (by omega)];exact e5
   replace f0:w6.cell? ⟨w1.heap.size,0,none⟩=some (.bool true):=by rw [hc6 _ _ (by omega)];exact f0
   replace f1:w6.cell? ⟨w1.heap.size,1,none⟩=some (.bool false):=by rw [hc6 _ _ (by omega)];exact f1
   replace f2:w6.cell? ⟨w1.heap.size,2,none⟩=some (.bool true):=by rw [hc6 _ _ (by omega)];exact f2
   replace f3:w6.cell? ⟨w1.heap.size,3,none⟩=some (.bool true):=by rw [hc6 _ _ (by omega)];exact f3
   have hB6:Below w.heap.size w w6:=hB5.trans (hb6.mono (by omega));clear hc6 hb6;have lX3:(txt a b).length≤20:=by have:=txt_len o.v;omega
   go_wp2_with fail
   go_ret
   exact⟨congrArg (fun x=>Ending.returned (.string x)) (by rw [cat2,cat2,cat2];simp [opTail,part,hR,hS,hT,hV]),hB6⟩
  ·rw [hR] at f0;rw [hS] at f1;rw [hT] at f2;rw [hV] at f3
   go_wp2_with fail
   refine(specText_any a b _).mono ?_;rintro e w4 ⟨rfl,hb4⟩;obtain⟨hc4,_⟩:=bcell hb4;have hz4:=hb4.size;replace e0:w4.cell? ⟨w.heap.size,0,none⟩=some (.int .i64 (n:Int)):=by rw [hc4 _ _ (by omega)];exact e0
   replace e1:w4.cell? ⟨w.heap.size,1,none⟩=some (.int .i64 r):=by rw [hc4 _ _ (by omega)];exact e1
   replace e2:w4.cell? ⟨w.heap.size,2,none⟩=some (.int .i64 s):=by rw [hc4 _ _ (by omega)];exact e2
   replace e3:w4.cell? ⟨w.heap.size,3,none⟩=some (.int .i64 t):=by rw [hc4 _ _ (by omega)];exact e3
   replace e4:w4.cell? ⟨w.heap.size,4,none⟩=some (.int .i64 a):=by rw [hc4 _ _ (by omega)];exact e4
   replace e5:w4.cell? ⟨w.heap.size,5,none⟩=some (.int .i64 b):=by rw [hc4 _ _ (by omega)];exact e5
   replace f0:w4.cell? ⟨w1.heap.size,0,none⟩=some (.bool false):=by rw [hc4 _ _ (by omega)];exact f0
   replace f1:w4.cell? ⟨w1.heap.size,1,none⟩=some (.bool false):=by rw [hc4 _ _ (by omega)];exact f1
   replace f2:w4.cell? ⟨w1.heap.size,2,none⟩=some (.bool false):=by rw [hc4 _ _ (by omega)];exact f2
   replace f3:w4.cell? ⟨w1.heap.size,3,none⟩=some (.bool true):=by rw [hc4 _ _ (by omega)];exact f3
   have hB4:Below w.heap.size w w4:=hB3.trans (hb4.mono (by omega));clear hc4 hb4;have lX3:(txt a b).length≤20:=by have:=txt_len o.v;omega
   go_wp2_with fail
   go_ret
   exact⟨congrArg (fun x=>Ending.returned (.string x)) (by rw [cat2];simp [opTail,part,hR,hS,hT,hV]),hB4⟩
 go_region_with (go_at_call 206;refine(names_any _).mono ?_;rintro e wx ⟨rfl,rfl⟩)
 all_goals (go_step;exact hK)
theorem specOpText_any (k r s t a b:Int) (w:World) :
  Calls Tryz.prog 209 #[.agg #[.int .i64 k,.int .i64 r,.int .i64 s,.int .i64 t,.int .i64 a,.int .i64 b]] w fun e w'=>e=.returned (.string ⟨(opTxt k r s t a b).toArray⟩)∧Below w.heap.size w w':=by
 cases h:opB k r s t a b with
 |false=>exact specOpText_bad k r s t a b h w
 |true=>exact specOpText_ok k r s t a b h w
end Go.Proofs.YtgmkmeodimmdoaaGreatDoor.Eld
