import Derived.Lib.ItoaNum
import Derived.Lib.AtoiTie
import Derived.Laws.BytesArg
import Derived.Test.YtgmkmeodimmdoaaGreatDoorBQb
import Derived.Lib.SplitLaws
import Derived.Lib.Replace
import Derived.BigRegion
import Derived.RegionTactic
set_option maxHeartbeats 8000000
set_option maxRecDepth 100000
namespace Go.Proofs.YtgmkmeodimmdoaaGreatDoor.Eld
open Go.ChangeShapes Go.WideShapes Go.ChangeAt Go.RowKit Go.Joins
attribute [local go_sem ↓] Go.wp_at_zero Go.wp_at_succ
theorem dec_lt10 (u:Nat) (h:u<10):Lib.decDigits u=[UInt8.ofNat (48+u)]:=by rw [Lib.decDigits,dif_pos h]
theorem dec_lt100 (u:Nat) (h:10≤u) (h':u<100):Lib.decDigits u=[UInt8.ofNat (48+u / 10),UInt8.ofNat (48+u % 10)]:=by
 rw [Lib.decDigits,dif_neg (by omega),dec_lt10 (u / 10) (by omega)];rfl
theorem dec_len (u:Nat) (h:u<100):(Lib.decDigits u).length≤2:=by
 by_cases h1:u<10
 ·rw [dec_lt10 u h1];simp
 ·rw [dec_lt100 u (by omega) h];simp
theorem itoa_pos (n:Int) (h:0≤n):Lib.itoa n=Lib.decDigits n.toNat:=by rw [Lib.itoa,if_neg (by omega)]
theorem itoa_neg (n:Int) (h:n<0):Lib.itoa n=45::Lib.itoa (-n):=by rw [Lib.itoa,if_pos h,itoa_pos (-n) (by omega)];congr 2;omega
theorem itoa_len (n:Int) (h1 : -99≤n) (h2:n≤99):(Lib.itoa n).length≤3:=by
 by_cases h:n<0
 ·rw [itoa_neg n h,itoa_pos (-n) (by omega),List.length_cons];have:=dec_len (-n).toNat (by omega);omega
 ·rw [itoa_pos n (by omega)];have:=dec_len n.toNat (by omega);omega
theorem cat (a b:List UInt8):(⟨a.toArray⟩:ByteArray)++⟨b.toArray⟩=⟨(a++b).toArray⟩:=by
 apply ByteArray.ext;simp
theorem conv_one (w:World) (x:Int):Sem.run Tryz.prog (convert 22 9 (.slice (some ⟨w.heap.size,0,none⟩) 1 1)) (w.alloc (.cells #[.int .u8 x] 5))=.ok (.string (strOfNums [x])) (w.alloc (.cells #[.int .u8 x] 5)):=by
 refine run_convert_bytes_arg (P:=Tryz.prog) _ 22 5 Tryz.underlying22 Tryz.underlying5 w.heap.size 0 1 1 [x] rfl ?_ 9 Tryz.underlying9;intro i hi;obtain rfl:i=0:=by omega
 simp [go_sem]
theorem dec_one (n:Int) (w:World) (h1:0≤n) (h2:n<10) :
  Calls Tryz.prog 221 #[.int .i64 n] w fun e w'=>e=.returned (.string ⟨(Lib.itoa n).toArray⟩)∧Below w.heap.size w w':=by
 have e1:¬n < -9223372036854775807:=by omega
 have e2:¬n<0:=by omega
 have hc:=conv_one w (48+n);have hfin:strOfNums [48+n]=⟨(Lib.itoa n).toArray⟩:=by
  rw [itoa_pos n h1,dec_lt10 _ (by omega)]
  apply ByteArray.ext
  show (#[UInt8.ofNat (48+n).toNat]:Array UInt8)=#[UInt8.ofNat (48+n.toNat)];rw [show (48+n).toNat=48+n.toNat from by omega]
 have HF:=(show Hid _ from hfin);clear hfin
 go_enter Tryz.func221,Tryz.ntmps221
 go_wp2_with fail
 go_ret
 exact⟨congrArg (fun x=>Ending.returned (.string x)) HF.out,(Below.refl _ _).alloc (Nat.le_refl _) _⟩
theorem conv_at (W:World) (b:Nat) (x:Int) (hb:W.cell? ⟨b,0,none⟩=some (.int .u8 x)):Sem.run Tryz.prog (convert 22 9 (.slice (some ⟨b,0,none⟩) 1 1)) W=.ok (.string (strOfNums [x])) W:=by
 refine run_convert_bytes_arg (P:=Tryz.prog) _ 22 5 Tryz.underlying22 Tryz.underlying5 b 0 1 1 [x] rfl ?_ 9 Tryz.underlying9;intro i hi;obtain rfl:i=0:=by omega
 simpa using hb
theorem conv_one_drew (w:World) (x:Int):Sem.run Tryz.prog (convert 22 9 (.slice (some ⟨w.heap.size,0,none⟩) 1 1)) (w.alloc (.cells #[.int .u8 x] 5)).drew=.ok (.string (strOfNums [x])) (w.alloc (.cells #[.int .u8 x] 5)).drew :=
 conv_at _ _ _ (by simp [go_sem])
theorem two_text (n:Int) (h1:10≤n) (h2:n<100):(⟨(Lib.itoa (n / 10)).toArray⟩:ByteArray)++strOfNums [48+n % 10]=⟨(Lib.itoa n).toArray⟩:=by
 rw [itoa_pos n (by omega),itoa_pos (n / 10) (by omega),dec_lt100 n.toNat (by omega) (by omega),dec_lt10 (n / 10).toNat (by omega)]
 apply ByteArray.ext
 show (#[UInt8.ofNat (48+(n / 10).toNat)]:Array UInt8)++#[UInt8.ofNat (48+n % 10).toNat]=#[UInt8.ofNat (48+n.toNat / 10),UInt8.ofNat (48+n.toNat % 10)];rw [show (48+n % 10).toNat=48+n.toNat % 10 from by omega,show (n / 10).toNat=n.toNat / 10 from by omega];rfl
theorem dec_two (n:Int) (w:World) (h1:10≤n) (h2:n<100) :
  Calls Tryz.prog 221 #[.int .i64 n] w fun e w'=>e=.returned (.string ⟨(Lib.itoa n).toArray⟩)∧Below w.heap.size w w':=by
 have e1:¬n < -9223372036854775807:=by omega
 have e2:¬n<0:=by omega
 have e3:¬n<10:=by omega
 have hcv:=fun(W:World) (b:Nat)=>conv_at W b (48+n % 10)
 have hm:n.tmod 10=n % 10:=Int.tmod_eq_emod_of_nonneg (by omega);have hq:IntKind.i64.wrap (n.tdiv 10)=n / 10:=by rw [Int.tdiv_eq_ediv_of_nonneg (by omega)];simp [IntKind.wrap,IntKind.bits,IntKind.signed];omega
 have k1:IntKind.i64.wrap (48+n % 10)=48+n % 10:=by simp [IntKind.wrap,IntKind.bits,IntKind.signed];omega
 have k2:IntKind.u8.wrap (48+n % 10)=48+n % 10:=by simp [IntKind.wrap,IntKind.bits,IntKind.signed];omega
 have HF:=(show Hid _ from two_text n h1 h2);have hl:=itoa_len (n / 10) (by omega) (by omega);have hl':¬9223372036854775807<(Lib.itoa (n / 10)).length+1:=by omega
 have hsz:(strOfNums [48+n % 10]).size=1:=rfl
 go_enter Tryz.func221,Tryz.ntmps221
 go_wp2_with fail
 go_region_with (go_at_call 221;refine(dec_one (n / 10) _ (by omega) (by omega)).mono ?_;rintro e w1 ⟨rfl,hb1⟩;obtain⟨hc1,hf1⟩:=bcell hb1)
 all_goals go_wp2_with fail
 all_goals go_ret
 all_goals refine⟨congrArg (fun x=>Ending.returned (.string x)) HF.out,?_⟩
 all_goals first|exact((Below.refl _ _).drew.trans hb1).alloc hb1.size _|exact(((Below.refl _ _).alloc (Nat.le_refl _) _).drew).trans (hb1.mono (by simp))
theorem dec_small (n:Int) (w:World) (h1:0≤n) (h2:n<100) :
  Calls Tryz.prog 221 #[.int .i64 n] w fun e w'=>e=.returned (.string ⟨(Lib.itoa n).toArray⟩)∧Below w.heap.size w w':=by
 by_cases h:n<10
 ·exact dec_one n w h1 h
 ·exact dec_two n w (by omega) h2
theorem dec_any (n:Int) (w:World) (h1 : -99≤n) (h2:n≤99) :
  Calls Tryz.prog 221 #[.int .i64 n] w fun e w'=>e=.returned (.string ⟨(Lib.itoa n).toArray⟩)∧Below w.heap.size w w':=by
 by_cases h:n<0
 ·have e1:¬n < -9223372036854775807:=by omega
  have hl:=itoa_len (-n) (by omega) (by omega);have hl':¬9223372036854775807<1+(Lib.itoa (-n)).length:=by omega
  have HF:Hid ((⟨#[45]⟩:ByteArray)++⟨(Lib.itoa (-n)).toArray⟩=⟨(Lib.itoa n).toArray⟩):=by
   show (⟨#[45]⟩:ByteArray)++⟨(Lib.itoa (-n)).toArray⟩=⟨(Lib.itoa n).toArray⟩;rw [itoa_neg n h];exact cat [45] (Lib.itoa (-n))
  go_enter Tryz.func221,Tryz.ntmps221
  go_wp2_with fail
  refine(dec_small (-n) _ (by omega) (by omega)).mono ?_;rintro e w1 ⟨rfl,hb1⟩
  go_wp2_with fail
  go_ret
  exact⟨congrArg (fun x=>Ending.returned (.string x)) HF.out,hb1⟩
 ·exact dec_small n w (by omega) (by omega)
def txt (k n:Int):List UInt8 :=
 if okB k n=true then (if k=1 then 110::Lib.itoa n else if k=2 then 97::Lib.itoa n else if k=3 then 114::Lib.itoa n else [110,111,110,101]) else []
theorem txt_bad {k n:Int} (h:okB k n=false):txt k n=[]:=by rw [txt,if_neg (by rw [h];decide)]
theorem txt_none {n:Int} (h:okB 0 n=true):txt 0 n=[110,111,110,101]:=by rw [txt,if_pos h];rfl
theorem txt_num {n:Int} (h:okB 1 n=true):txt 1 n=110::Lib.itoa n:=by rw [txt,if_pos h];rfl
theorem txt_name {n:Int} (h:okB 2 n=true):txt 2 n=97::Lib.itoa n:=by rw [txt,if_pos h];rfl
theorem txt_run {n:Int} (h:okB 3 n=true):txt 3 n=114::Lib.itoa n:=by rw [txt,if_pos h];rfl
theorem okB_bd {k n:Int} (h:okB k n=true) : -99≤n∧n≤99:=by
 by_cases h0:k=0
 ·subst h0;rw [okB_zero] at h;simp at h;omega
 by_cases h1:k=1
 ·subst h1;rw [okB_one] at h;simp at h;omega
 by_cases h2:k=2
 ·subst h2;rw [okB_two] at h;simp at h;omega
 by_cases h3:k=3
 ·subst h3;rw [okB_three] at h;simp at h;omega
 rw [okB_else k n h0 h1 h2 h3] at h;cases h
theorem okB_kinds {k n:Int} (h:okB k n=true):k=0∨k=1∨k=2∨k=3:=by
 by_cases h0:k=0
 ·exact .inl h0
 by_cases h1:k=1
 ·exact .inr (.inl h1)
 by_cases h2:k=2
 ·exact .inr (.inr (.inl h2))
 by_cases h3:k=3
 ·exact .inr (.inr (.inr h3))
 rw [okB_else k n h0 h1 h2 h3] at h;cases h
end Go.Proofs.YtgmkmeodimmdoaaGreatDoor.Eld
namespace Go.Proofs.YtgmkmeodimmdoaaGreatDoor.Eld
open Go.ChangeShapes Go.WideShapes Go.ChangeAt Go.RowKit Go.Joins
def unItoa:List UInt8→Int
 |[a]=>(a.toNat:Int)-48
 |[a,b]=>if a.toNat=45 then -((b.toNat:Int)-48) else 10*((a.toNat:Int)-48)+((b.toNat:Int)-48)
 |[_,b,c] => -(10*((b.toNat:Int)-48)+((c.toNat:Int)-48))
 |_=>0
theorem fig (u:Nat) (h:u<10):(UInt8.ofNat (48+u)).toNat=48+u:=by
 rw [UInt8.toNat_ofNat'];omega
theorem unItoa_itoa (n:Int) (h1 : -99≤n) (h2:n≤99):unItoa (Lib.itoa n)=n:=by
 by_cases h:n<0
 ·rw [itoa_neg n h,itoa_pos (-n) (by omega)];by_cases h10:(-n).toNat<10
  ·rw [dec_lt10 _ h10];rw [unItoa,if_pos (by decide),fig _ h10];omega
  ·rw [dec_lt100 _ (by omega) (by omega)];show -(10*(((UInt8.ofNat (48+(-n).toNat / 10)).toNat:Int)-48)+(((UInt8.ofNat (48+(-n).toNat % 10)).toNat:Int)-48))=n;rw [fig _ (by omega),fig _ (by omega)];omega
 ·rw [itoa_pos n (by omega)];by_cases h10:n.toNat<10
  ·rw [dec_lt10 _ h10];show ((UInt8.ofNat (48+n.toNat)).toNat:Int)-48=n;rw [fig _ h10];omega
  ·rw [dec_lt100 _ (by omega) (by omega)];rw [unItoa,fig _ (by omega),if_neg (by omega),fig _ (by omega)];omega
theorem itoa_inj {n m:Int} (h1 : -99≤n) (h2:n≤99) (h3 : -99≤m) (h4:m≤99) (h:Lib.itoa n=Lib.itoa m):n=m:=by
 rw [←unItoa_itoa n h1 h2,←unItoa_itoa m h3 h4,h]
theorem itoa_head (n:Int) (h1 : -99≤n) (h2:n≤99) (r:List UInt8):Lib.itoa n≠111::r:=by
 intro h;by_cases hn:n<0
 ·rw [itoa_neg n hn] at h;injection h with h _;exact absurd h (by decide)
 ·rw [itoa_pos n (by omega)] at h;by_cases h10:n.toNat<10
  ·rw [dec_lt10 _ h10] at h
   injection h with h _
   have:=congrArg UInt8.toNat h;rw [fig _ h10] at this;have e:(111:UInt8).toNat=111:=rfl;omega
  ·rw [dec_lt100 _ (by omega) (by omega)] at h
   injection h with h _
   have:=congrArg UInt8.toNat h;rw [fig _ (by omega)] at this;have e:(111:UInt8).toNat=111:=rfl;omega
theorem txt_inj {k n l m:Int} (h1:okB k n=true) (h2:okB l m=true) (h:txt k n=txt l m):k=l∧n=m:=by
 have b1:=okB_bd h1;have b2:=okB_bd h2;have d1:((110:UInt8)=97)=False:=by decide
 have d2:((110:UInt8)=114)=False:=by decide
 have d3:((97:UInt8)=110)=False:=by decide
 have d4:((97:UInt8)=114)=False:=by decide
 have d5:((114:UInt8)=110)=False:=by decide
 have d6:((114:UInt8)=97)=False:=by decide
 rcases okB_kinds h1 with rfl|rfl|rfl|rfl<;>rcases okB_kinds h2 with rfl|rfl|rfl|rfl
 ·rw [okB_zero] at h1 h2;simp at h1 h2;omega
 ·rw [txt_none h1,txt_num h2] at h;injection h with _ h;exact absurd h.symm (itoa_head m b2.1 b2.2 _)
 ·rw [txt_none h1,txt_name h2] at h;injection h with h _;exact(d1 ▸ h:False).elim
 ·rw [txt_none h1,txt_run h2] at h;injection h with h _;exact(d2 ▸ h:False).elim
 ·rw [txt_num h1,txt_none h2] at h;injection h with _ h;exact absurd h (itoa_head n b1.1 b1.2 _)
 ·rw [txt_num h1,txt_num h2] at h;injection h with _ h;exact⟨rfl,itoa_inj b1.1 b1.2 b2.1 b2.2 h⟩
 ·rw [txt_num h1,txt_name h2] at h;injection h with h _;exact(d1 ▸ h:False).elim
 ·rw [txt_num h1,txt_run h2] at h;injection h with h _;exact(d2 ▸ h:False).elim
 ·rw [txt_name h1,txt_none h2] at h;injection h with h _;exact(d3 ▸ h:False).elim
 ·rw [txt_name h1,txt_num h2] at h;injection h with h _;exact(d3 ▸ h:False).elim
 ·rw [txt_name h1,txt_name h2] at h;injection h with _ h;exact⟨rfl,itoa_inj b1.1 b1.2 b2.1 b2.2 h⟩
 ·rw [txt_name h1,txt_run h2] at h;injection h with h _;exact(d4 ▸ h:False).elim
 ·rw [txt_run h1,txt_none h2] at h;injection h with h _;exact(d5 ▸ h:False).elim
 ·rw [txt_run h1,txt_num h2] at h;injection h with h _;exact(d5 ▸ h:False).elim
 ·rw [txt_run h1,txt_name h2] at h;injection h with h _;exact(d6 ▸ h:False).elim
 ·rw [txt_run h1,txt_run h2] at h;injection h with _ h;exact⟨rfl,itoa_inj b1.1 b1.2 b2.1 b2.2 h⟩
theorem dig:∀u:Nat,u<10→Lib.digitVal (UInt8.ofNat (48+u))=some u:=by decide
theorem dig45:∀u:Nat,u<10→(UInt8.ofNat (48+u)==45)=false:=by decide
theorem dig43:∀u:Nat,u<10→(UInt8.ofNat (48+u)==43)=false:=by decide
theorem decNat_small (u:Nat) (h:u<100):Lib.decNat (Lib.decDigits u)=some u:=by
 by_cases h10:u<10
 ·rw [dec_lt10 u h10,Lib.decNat,if_neg (by simp),Lib.decFrom,dig u h10];show Lib.decFrom (0*10+u) []=some u;rw [Lib.decFrom];congr 1;omega
 ·rw [dec_lt100 u (by omega) h,Lib.decNat,if_neg (by simp),Lib.decFrom,dig (u / 10) (by omega)];show Lib.decFrom (0*10+u / 10) [UInt8.ofNat (48+u % 10)]=some u;rw [Lib.decFrom,dig (u % 10) (by omega)];show Lib.decFrom ((0*10+u / 10)*10+u % 10) []=some u;rw [Lib.decFrom];congr 1;omega
theorem dec_head (u:Nat) (h:u<100):∃b r,Lib.decDigits u=b::r∧(b==45)=false∧(b==43)=false:=by
 by_cases h10:u<10
 ·exact⟨_,_,dec_lt10 u h10,dig45 u h10,dig43 u h10⟩
 ·exact⟨_,_,dec_lt100 u (by omega) h,dig45 _ (by omega),dig43 _ (by omega)⟩
theorem atoi_itoa (n:Int) (h1 : -99≤n) (h2:n≤99):Lib.atoiAll (Lib.itoa n)=.ok n:=by
 have hl:=itoa_len n h1 h2;rw [Lib.atoiAll_short _ (by omega)];by_cases h:n<0
 ·rw [itoa_neg n h,itoa_pos (-n) (by omega)];show Lib.NumEnd.ofOption (Lib.atoi (45::Lib.decDigits (-n).toNat))=_;have e:Lib.atoi (45::Lib.decDigits (-n).toNat)=some n:=by
   rw [Lib.atoi,if_pos (by decide),decNat_small _ (by omega)];show some (-((-n).toNat:Int))=some n
   congr 1;omega
  rw [e];rfl
 ·rw [itoa_pos n (by omega)];obtain⟨b,r,hd,h45,h43⟩:=dec_head n.toNat (by omega);have e:Lib.atoi (Lib.decDigits n.toNat)=some n:=by
   have hn:=decNat_small n.toNat (by omega);rw [hd] at hn ⊢;rw [Lib.atoi,if_neg (by rw [h45];decide),if_neg (by rw [h43];decide),hn];show some ((n.toNat:Int))=some n
   congr 1;omega
  rw [e];rfl
def kindL (c:UInt8):Int:=if c=110 then 1 else if c=97 then 2 else if c=114 then 3 else 0
theorem kindL_cases (c:UInt8):(c=110∧kindL c=1)∨(c=97∧kindL c=2)∨(c=114∧kindL c=3)∨(c≠110∧c≠97∧c≠114∧kindL c=0):=by
 by_cases h1:c=110
 ·subst h1;exact .inl ⟨rfl,rfl⟩
 by_cases h2:c=97
 ·subst h2;exact .inr (.inl ⟨rfl,rfl⟩)
 by_cases h3:c=114
 ·subst h3;exact .inr (.inr (.inl ⟨rfl,rfl⟩))
 exact .inr (.inr (.inr ⟨h1,h2,h3,by simp [kindL,h1,h2,h3]⟩))
theorem txt_letter {k n:Int} (h:okB k n=true) (hk:k≠0):∃c,kindL c=k∧txt k n=c::Lib.itoa n:=by
 rcases okB_kinds h with rfl|rfl|rfl|rfl
 ·exact absurd rfl hk
 ·exact⟨110,rfl,txt_num h⟩
 ·exact⟨97,rfl,txt_name h⟩
 ·exact⟨114,rfl,txt_run h⟩
theorem txt_len {k n:Int} (h:okB k n=true):(txt k n).length≤4:=by
 have b:=okB_bd h;by_cases hk:k=0
 ·subst hk;rw [txt_none h];decide
 ·obtain⟨c,_,ht⟩:=txt_letter h hk;rw [ht,List.length_cons];have:=itoa_len n b.1 b.2;omega
def wordL:List (List UInt8) :=
 [[],[115,101,116],[109,111,118,101],[97,100,100],[115,101,108,102],[98,101,103,105,110],[115,101,110,100],[116,97,107,101],[97,102,116,101,114],[103,111],[105,102],[108,105,110,107],[119,97,116,99,104],[116,114,97,112],[101,110,100]]
def word (k:Int):List UInt8:=wordL.getD k.toNat []
def part (b:Bool) (x:List UInt8):List UInt8:=if b=true then 32::x else []
def opTail (k r s t vk vn:Int):List UInt8:=part (fR k) (Lib.itoa r)++(part (fS k) (Lib.itoa s)++(part (fT k) (Lib.itoa t)++part (fV k) (txt vk vn)))
def opTxt (k r s t vk vn:Int):List UInt8:=if opB k r s t vk vn=true then word k++opTail k r s t vk vn else []
theorem opTxt_bad {k r s t vk vn:Int} (h:opB k r s t vk vn=false):opTxt k r s t vk vn=[]:=by rw [opTxt,if_neg (by rw [h];decide)]
theorem opTxt_ok {k r s t vk vn:Int} (h:opB k r s t vk vn=true):opTxt k r s t vk vn=word k++opTail k r s t vk vn:=by rw [opTxt,if_pos h]
def NoB (a:List UInt8):Prop:=∀x∈a,x≠32
def Tail (a:List UInt8):Prop:=a=[]∨∃r,a=32::r
theorem tail_part (b:Bool) (x y:List UInt8) (h:Tail y):Tail (part b x++y):=by
 cases b with
 |false=>simpa [part] using h
 |true=>exact .inr ⟨x++y,by simp [part]⟩
theorem tail_part0 (b:Bool) (x:List UInt8):Tail (part b x):=by simpa using tail_part b x [] (.inl rfl)
theorem split_eq:∀{a b x y:List UInt8},NoB a→NoB b→Tail x→Tail y→a++x=b++y→a=b∧x=y
 |[],[],_,_,_,_,_,_,h=>⟨rfl,h⟩
 |[],c::b,x,y,_,hb,hx,_,h=>by
  rcases hx with rfl|⟨r,rfl⟩
  ·simp at h
  ·have e:(32:UInt8)=c:=by simpa using(List.cons.inj h).1
   exact absurd e.symm (hb c (by simp))
 |c::a,[],x,y,ha,_,_,hy,h=>by
  rcases hy with rfl|⟨r,rfl⟩
  ·simp at h
  ·have e:c=(32:UInt8):=by simpa using(List.cons.inj h).1
   exact absurd e (ha c (by simp))
 |c::a,d::b,x,y,ha,hb,hx,hy,h=>by
  obtain⟨e1,e2⟩:=List.cons.inj h;obtain⟨e3,e4⟩:=split_eq (fun z hz=>ha z (by simp [hz])) (fun z hz=>hb z (by simp [hz])) hx hy e2;exact⟨by rw [e1,e3],e4⟩
theorem part_eq {f:Bool} {u v x y:List UInt8} (hu:NoB u) (hv:NoB v) (hx:Tail x) (hy:Tail y) (h:part f u++x=part f v++y):(f=true→u=v)∧x=y:=by
 cases f with
 |false=>exact⟨fun e=>(by cases e),(by simpa [part] using h)⟩
 |true =>
  have h':u++x=v++y:=by simpa [part] using h
  obtain⟨e1,e2⟩:=split_eq hu hv hx hy h';exact⟨fun _=>e1,e2⟩
theorem figB:∀u:Nat,u<10→UInt8.ofNat (48+u)≠32:=by decide
theorem nob_dec (u:Nat) (h:u<100):NoB (Lib.decDigits u):=by
 intro x hx;by_cases h1:u<10
 ·rw [dec_lt10 u h1] at hx;rw [List.mem_singleton.1 hx];exact figB u h1
 ·rw [dec_lt100 u (by omega) h] at hx;rcases List.mem_cons.1 hx with rfl|hx
  ·exact figB _ (by omega)
  ·rw [List.mem_singleton.1 hx];exact figB _ (by omega)
theorem nob_itoa (n:Int) (h1 : -99≤n) (h2:n≤99):NoB (Lib.itoa n):=by
 by_cases h:n<0
 ·rw [itoa_neg n h,itoa_pos (-n) (by omega)];intro x hx;rcases List.mem_cons.1 hx with rfl|hx
  ·decide
  ·exact nob_dec _ (by omega) x hx
 ·rw [itoa_pos n (by omega)];exact nob_dec _ (by omega)
theorem nob_txt {k n:Int} (h:okB k n=true):NoB (txt k n):=by
 have b:=okB_bd h;have c:=nob_itoa n b.1 b.2;rcases okB_kinds h with rfl|rfl|rfl|rfl
 ·rw [txt_none h];intro x hx;simp at hx;rcases hx with rfl|rfl|rfl|rfl<;>decide
 ·rw [txt_num h];intro x hx;rcases List.mem_cons.1 hx with rfl|hx;decide;exact c x hx
 ·rw [txt_name h];intro x hx;rcases List.mem_cons.1 hx with rfl|hx;decide;exact c x hx
 ·rw [txt_run h];intro x hx;rcases List.mem_cons.1 hx with rfl|hx;decide;exact c x hx
theorem words_nob:∀i:Nat,i<15→∀x∈wordL.getD i [],x≠32:=by decide
theorem words_inj:∀i:Nat,i<15→∀j:Nat,j<15→wordL.getD i []=wordL.getD j []→i=j:=by decide
theorem words_some:∀i:Nat,i<15→1≤i→wordL.getD i []≠[]:=by decide
theorem words_len:∀i:Nat,i<15→(wordL.getD i []).length≤5:=by decide
theorem nob_word {k:Int} (h1:1≤k) (h2:k≤14):NoB (word k):=words_nob _ (by omega)
theorem word_inj {k l:Int} (h1:1≤k) (h2:k≤14) (h3:1≤l) (h4:l≤14) (h:word k=word l):k=l:=by
 have:=words_inj k.toNat (by omega) l.toNat (by omega) h;omega
theorem word_some {k:Int} (h1:1≤k) (h2:k≤14):word k≠[]:=words_some _ (by omega) (by omega)
theorem tail_op (k r s t vk vn:Int):Tail (opTail k r s t vk vn):=tail_part _ _ _ (tail_part _ _ _ (tail_part _ _ _ (tail_part0 _ _)))
theorem opTxt_some {k r s t vk vn:Int} (h:opB k r s t vk vn=true):opTxt k r s t vk vn≠[]:=by
 have o:=opIs_of h;rw [opTxt_ok h];exact fun e=>word_some o.k1 o.k2 (List.append_eq_nil_iff.1 e).1
theorem opTxt_inj {k r s t vk vn l r' s' t' wk wn:Int} (h1:opB k r s t vk vn=true) (h2:opB l r' s' t' wk wn=true) (h:opTxt k r s t vk vn=opTxt l r' s' t' wk wn) :
  k=l∧r=r'∧s=s'∧t=t'∧vk=wk∧vn=wn:=by
 have o:=opIs_of h1;have p:=opIs_of h2;rw [opTxt_ok h1,opTxt_ok h2] at h;obtain⟨e1,e2⟩:=split_eq (nob_word o.k1 o.k2) (nob_word p.k1 p.k2) (tail_op _ _ _ _ _ _) (tail_op _ _ _ _ _ _) h;obtain rfl:=word_inj o.k1 o.k2 p.k1 p.k2 e1;have br:=o.r1;have br2:=o.r2;have bs:=o.s1;have bs2:=o.s2;have bt:=o.t1;have bt2:=o.t2
 have cr:=p.r1;have cr2:=p.r2;have cs:=p.s1;have cs2:=p.s2;have ct:=p.t1;have ct2:=p.t2
 obtain⟨q1,e3⟩:=part_eq (nob_itoa r (by omega) (by omega)) (nob_itoa r' (by omega) (by omega)) (tail_part _ _ _ (tail_part _ _ _ (tail_part0 _ _))) (tail_part _ _ _ (tail_part _ _ _ (tail_part0 _ _))) e2;obtain⟨q2,e4⟩:=part_eq (nob_itoa s (by omega) (by omega)) (nob_itoa s' (by omega) (by omega)) (tail_part _ _ _ (tail_part0 _ _)) (tail_part _ _ _ (tail_part0 _ _)) e3;obtain⟨q3,e5⟩:=part_eq (nob_itoa t (by omega) (by omega)) (nob_itoa t' (by omega) (by omega)) (tail_part0 _ _) (tail_part0 _ _) e4;obtain⟨q4,_⟩:=part_eq (x:=[]) (y:=[]) (nob_txt o.v) (nob_txt p.v) (.inl rfl) (.inl rfl) (by simpa using e5);refine⟨rfl,?_,?_,?_,?_⟩
 ·cases hf:fR k with
  |true=>exact itoa_inj (by omega) (by omega) (by omega) (by omega) (q1 hf)
  |false=>rw [o.rN hf,p.rN hf]
 ·cases hf:fS k with
  |true=>exact itoa_inj (by omega) (by omega) (by omega) (by omega) (q2 hf)
  |false=>rw [o.sN hf,p.sN hf]
 ·cases hf:fT k with
  |true=>exact itoa_inj (by omega) (by omega) (by omega) (by omega) (q3 hf)
  |false=>rw [o.tN hf,p.tN hf]
 ·cases hf:fV k with
  |true=>exact txt_inj o.v p.v (q4 hf)
  |false=>exact⟨(o.vN hf).1.trans (p.vN hf).1.symm,(o.vN hf).2.trans (p.vN hf).2.symm⟩
theorem part_len (b:Bool) (u:List UInt8) (m:Nat) (h:u.length≤m):(part b u).length≤m+1:=by
 cases b<;>simp [part]<;>omega
theorem opTxt_len {k r s t vk vn:Int} (h:opB k r s t vk vn=true):(opTxt k r s t vk vn).length≤22:=by
 have o:=opIs_of h;have br:=o.r1;have br2:=o.r2;have bs:=o.s1;have bs2:=o.s2;have bt:=o.t1;have bt2:=o.t2;have bk:=o.k1;have bk2:=o.k2
 have w:=words_len k.toNat (by omega);have l1:=part_len (fR k) _ 3 (itoa_len r (by omega) (by omega));have l2:=part_len (fS k) _ 3 (itoa_len s (by omega) (by omega));have l3:=part_len (fT k) _ 3 (itoa_len t (by omega) (by omega));have l4:=part_len (fV k) _ 4 (txt_len o.v);rw [opTxt_ok h,opTail];simp only [List.length_append];unfold word;omega
def cutStep (out:List (List UInt8)) (c:UInt8):List (List UInt8):=if c=32 then out++[[]] else out.dropLast++[out.getLastD []++[c]]
def cuts (t:List UInt8):List (List UInt8):=t.foldl cutStep [[]]
theorem cutStep_blank (out:List (List UInt8)):cutStep out 32=out++[[]]:=by rw [cutStep,if_pos rfl]
theorem cutStep_other (P:List (List UInt8)) (q:List UInt8) {c:UInt8} (h:c≠32):cutStep (P++[q]) c=P++[q++[c]]:=by
 rw [cutStep,if_neg h];simp
def seg (b:Bool) (u:List UInt8):List (List UInt8):=if b=true then [u] else []
def pcs:List UInt8→List (List UInt8)
 |[]=>[[]]
 |c::l=>if c=32 then []::pcs l else (c::(pcs l).headD [])::(pcs l).tail
theorem pcs_blank (l:List UInt8):pcs (32::l)=[]::pcs l:=by rw [pcs,if_pos rfl]
theorem pcs_other {c:UInt8} (l:List UInt8) (h:c≠32):pcs (c::l)=(c::(pcs l).headD [])::(pcs l).tail:=by rw [pcs,if_neg h]
theorem pcs_some:∀t:List UInt8,pcs t≠[]
 |[]=>by simp [pcs]
 |c::l=>by
  by_cases h:c=32
  ·subst h;rw [pcs_blank];simp
  ·rw [pcs_other l h];simp
theorem pcs_cons (t:List UInt8):∃a r,pcs t=a::r:=by
 cases h:pcs t with
 |nil=>exact absurd h (pcs_some t)
 |cons a r=>exact⟨a,r,rfl⟩
theorem pcs_nob:∀{a:List UInt8},NoB a→pcs a=[a]
 |[],_=>rfl
 |c::l,h=>by
  rw [pcs_other l (h c (by simp)),pcs_nob (a:=l) (fun x hx=>h x (by simp [hx]))];rfl
theorem pcs_app:∀{a:List UInt8} (b:List UInt8),NoB a→pcs (a++32::b)=a::pcs b
 |[],b,_=>pcs_blank b
 |c::l,b,h=>by
  rw [List.cons_append,pcs_other _ (h c (by simp)),pcs_app (a:=l) b (fun x hx=>h x (by simp [hx]))];rfl
theorem pcs_tail {a:List UInt8} (ha:NoB a) {x:List UInt8} (f:Bool) {u:List UInt8}:pcs (a++(part f u++x))=if f=true then a::pcs (u++x) else pcs (a++x):=by
 cases f with
 |false=>simp [part]
 |true=>simp [part,pcs_app _ ha]
theorem pcs_op {k r s t a b:Int} (h:opB k r s t a b=true):pcs (opTxt k r s t a b)=word k::(seg (fR k) (Lib.itoa r)++(seg (fS k) (Lib.itoa s)++(seg (fT k) (Lib.itoa t)++seg (fV k) (txt a b)))):=by
 have o:=opIs_of h;have nw:=nob_word o.k1 o.k2;have nr:=nob_itoa r (by have:=o.r1;omega) (by have:=o.r2;omega);have ns:=nob_itoa s (by have:=o.s1;omega) (by have:=o.s2;omega);have nt:=nob_itoa t (by have:=o.t1;omega) (by have:=o.t2;omega);have nv:=nob_txt o.v;rw [opTxt_ok h];unfold opTail;have e0:∀{x:List UInt8} (f:Bool) {u:List UInt8},NoB x→NoB u→pcs (x++part f u)=x::seg f u:=by
  intro x f u hx hu
  cases f with
  |false=>simp [part,seg,pcs_nob hx]
  |true=>simp [part,seg,pcs_app _ hx,pcs_nob hu]
 have e1:∀{x:List UInt8} (f g:Bool) {u v:List UInt8},NoB x→NoB u→NoB v→pcs (x++(part f u++part g v))=x::(seg f u++seg g v):=by
  intro x f g u v hx hu hv;rw [pcs_tail hx]
  cases f with
  |false=>simp [seg];rw [e0 g hx hv];simp [seg]
  |true=>simp [seg];rw [e0 g hu hv];simp [seg]
 have e2:∀{x:List UInt8} (f g i:Bool) {u v y:List UInt8},NoB x→NoB u→NoB v→NoB y→pcs (x++(part f u++(part g v++part i y)))=x::(seg f u++(seg g v++seg i y)):=by
  intro x f g i u v y hx hu hv hy;rw [pcs_tail hx]
  cases f with
  |false=>simp [seg];rw [e1 g i hx hv hy];simp [seg]
  |true=>simp [seg];rw [e1 g i hu hv hy];simp [seg]
 rw [pcs_tail nw]
 cases hf:fR k with
 |false=>simp [seg];rw [e2 _ _ _ nw ns nt nv];simp [seg]
 |true=>simp [seg];rw [e2 _ _ _ nr ns nt nv];simp [seg]
theorem pcs_len:∀t:List UInt8,(pcs t).length≤t.length+1∧∀x∈pcs t,x.length≤t.length
 |[]=>by simp [pcs]
 |c::l=>by
  obtain⟨h1,h2⟩:=pcs_len l;by_cases h:c=32
  ·subst h;rw [pcs_blank];refine⟨by simp;omega,?_⟩;intro x hx;rcases List.mem_cons.1 hx with rfl|hx
   ·simp
   ·have:=h2 x hx;simp;omega
  ·obtain⟨a,r,e⟩:=pcs_cons l;rw [pcs_other l h];rw [e] at h1 h2 ⊢;refine⟨by simp at h1 ⊢;omega,?_⟩;intro x hx;rcases List.mem_cons.1 hx with rfl|hx
   ·have:=h2 a (by simp);simp;omega
   ·have:=h2 x (by simp at hx;simp [hx]);simp;omega
theorem fold_pcs:∀(t:List UInt8) (P:List (List UInt8)) (q:List UInt8),t.foldl cutStep (P++[q])=P++((q++(pcs t).headD [])::(pcs t).tail)
 |[],P,q=>by simp [pcs]
 |c::l,P,q=>by
  by_cases h:c=32
  ·subst h;rw [List.foldl_cons,cutStep_blank,fold_pcs l (P++[q]) [],pcs_blank];obtain⟨a,r,e⟩:=pcs_cons l;simp [e]
  ·rw [List.foldl_cons,cutStep_other P q h,fold_pcs l P (q++[c]),pcs_other l h];simp
theorem cuts_pcs (t:List UInt8):cuts t=pcs t:=by
 have:=fold_pcs t [] [];unfold cuts;simp at this;rw [this];obtain⟨a,r,e⟩:=pcs_cons t;simp [e]
def cutStepAt (b:UInt8) (out:List (List UInt8)) (c:UInt8):List (List UInt8):=if c=b then out++[[]] else out.dropLast++[out.getLastD []++[c]]
def cutsAt (b:UInt8) (t:List UInt8):List (List UInt8):=t.foldl (cutStepAt b) [[]]
theorem cutsAt_snoc (b:UInt8) (t:List UInt8) (c:UInt8):cutsAt b (t++[c])=cutStepAt b (cutsAt b t) c:=by
 unfold cutsAt;rw [List.foldl_append];rfl
theorem cutStepAt_some (b:UInt8) (out:List (List UInt8)) (c:UInt8):cutStepAt b out c≠[]:=by
 unfold cutStepAt;split<;>simp
theorem cutsAt_some (b:UInt8) (t:List UInt8):cutsAt b t≠[]:=by
 have key:∀(t:List UInt8) (P:List (List UInt8)),P≠[]→t.foldl (cutStepAt b) P≠[]:=by
  intro t
  induction t with
  |nil=>intro P h;exact h
  |cons c t ih=>intro P h;exact ih _ (cutStepAt_some b P c)
 exact key t [[]] (by simp)
theorem cutsAt_len (b:UInt8) (t:List UInt8):(cutsAt b t).length≤t.length+1∧∀x∈cutsAt b t,x.length≤t.length:=by
 have key:∀(t:List UInt8) (P:List (List UInt8)) (m:Nat),P≠[]→(∀x∈P,x.length≤m)→(t.foldl (cutStepAt b) P).length≤P.length+t.length∧∀x∈t.foldl (cutStepAt b) P,x.length≤m+t.length:=by
  intro t
  induction t with
  |nil=>intro P m h1 h2;exact⟨by simp,by simpa using h2⟩
  |cons c t ih =>
   intro P m h1 h2;have hn:(cutStepAt b P c).length≤P.length+1:=by
    unfold cutStepAt;split
    ·simp
    ·simp
   have hx:∀x∈cutStepAt b P c,x.length≤m+1:=by
    intro x hx;unfold cutStepAt at hx
    split at hx
    ·rcases List.mem_append.1 hx with h|h
     ·have:=h2 x h;omega
     ·rw [List.mem_singleton.1 h];simp
    ·rcases List.mem_append.1 hx with h|h
     ·have:=h2 x ((List.dropLast_sublist P).subset h);omega
     ·rw [List.mem_singleton.1 h];have e:P.getLastD []∈P:=by
       rw [List.getLastD_eq_getLast?,List.getLast?_eq_some_getLast h1];exact List.getLast_mem h1
      have:=h2 _ e;rw [List.length_append,List.length_singleton];omega
   obtain⟨k1,k2⟩:=ih (cutStepAt b P c) (m+1) (cutStepAt_some b P c) hx;refine⟨by simp only [List.foldl_cons,List.length_cons];omega,fun x hx=>?_⟩;have:=k2 x hx;simp only [List.length_cons];omega
 obtain⟨h1,h2⟩:=key t [[]] 0 (by simp) (by simp);exact⟨by simpa [cutsAt,Nat.add_comm] using h1,fun x hx=>by have:=h2 x hx;omega⟩
abbrev strV (x:List UInt8):Value:=.string ⟨x.toArray⟩
abbrev OwnsT (w:World) (B:Nat) (v:Value) (L:List (List UInt8)):Prop:=w.ownsRow B 9 1 v L.length (L.map strV)
theorem info_str:∃i,Tryz.prog.info? 9=some i∧i.zero=some (.string ⟨#[]⟩)∧i.size=1∧i.bytes=16 :=
 ⟨(Tryz.prog.info? 9).get (by kernel_rfl),(Option.some_get _).symm,by kernel_rfl,by kernel_rfl,by kernel_rfl⟩
theorem last_set (L:List (List UInt8)) (h:L≠[]) (x:List UInt8):L.set (L.length-1) x=L.dropLast++[x]:=by
 have e:=List.dropLast_concat_getLast h;conv=>lhs;rw [←e]
 have hl:(L.dropLast++[L.getLast h]).length-1=L.dropLast.length:=by simp
 rw [hl,List.set_append_right _ _ (Nat.le_refl _)];simp
theorem last_at (L:List (List UInt8)) (h:L≠[]):L[L.length-1]?=some (L.getLastD []):=by
 rw [List.getLastD_eq_getLast?,←List.getLast?_eq_getElem?,List.getLast?_eq_some_getLast h];rfl
theorem take_snocB (s:ByteArray) (k:Nat) (h:k<s.size):s.data.toList.take (k+1)=s.data.toList.take k++[s[k]]:=by
 rw [List.take_add_one,List.getElem?_eq_getElem (by simpa using h)];rfl
theorem nums_one (c:UInt8):strOfNums [(c.toNat:Int)]=⟨[c].toArray⟩:=by
 apply ByteArray.ext
 show (#[UInt8.ofNat ((c.toNat:Int)).toNat]:Array UInt8)=#[c];simp
theorem l2Cut_any (s:ByteArray) (b:UInt8) (w:World) (hl:s.size≤1048576) :
  Calls Tryz.prog 173 #[.string s,.int .u8 (b.toNat:Int)] w fun e w'=>∃v,e=.returned v∧OwnsT w' w.heap.size v (cutsAt b s.data.toList)∧Below w.heap.size w w':=by
 have hlit:OwnsT (w.alloc (.cells #[.string ⟨#[]⟩] 9)) w.heap.size (.slice (some ⟨w.heap.size,0,none⟩) 1 1) [[]]:=by
  have:=World.ownsRow_lit (base:=w.heap.size) (e:=9) (size:=1) w #[.string ⟨#[]⟩] 1 (by omega) (by decide) rfl;simpa [OwnsT] using this
 have hlen:s.data.toList.length=s.size:=Array.length_toList;obtain⟨inf,i1,i2,i3,i4⟩:=info_str
 go_enter Tryz.func173,Tryz.ntmps173
 go_wp2_with fail
 go_loopw [5,6] (fun v i wr=>∃k:Nat,k≤s.size∧i=.int .i64 k∧OwnsT wr w.heap.size v (cutsAt b (s.data.toList.take k))∧Below w.heap.size w wr) (fun _ i _=>s.size-(intOf i).toNat)
 case atStart=>exact⟨0,Nat.zero_le _,rfl,hlit,(Below.refl _ _).alloc (Nat.le_refl _) _⟩
 case round =>
  clear hlit;obtain⟨k,hk,rfl,ho,hB⟩:=hrel;have hzr:=hB.size;have hcl:=cutsAt_len b (s.data.toList.take k);have hne:=cutsAt_some b (s.data.toList.take k);have htl:(s.data.toList.take k).length≤k:=List.length_take_le _ _;by_cases hlt:k<s.size
  ·have hks:(k:Int)<(s.size:Int):=by omega
   have hst:Hid (cutsAt b (s.data.toList.take (k+1))=cutStepAt b (cutsAt b (s.data.toList.take k)) s[k]):=by
    show cutsAt b _=_;rw [take_snocB s k hlt,cutsAt_snoc]
   generalize hPe:cutsAt b (s.data.toList.take k)=P at *;have hu:=UInt8.toNat_lt s[k];have hu2:=UInt8.toNat_lt b;clear hPe;by_cases he:s[k]=b
   ·have he':((s[k].toNat:Int)==(b.toNat:Int))=true:=by rw [he];simp
    have hst2:Hid (cutsAt b (s.data.toList.take (k+1))=P++[[]]):=by show _=_;rw [hst.out];unfold cutStepAt;rw [if_pos he]
    clear he
    go_wp2_with (refine wpList_append_own _ rfl (.tmp 19) (.tmp 20) 153 rfl w.heap.size 9 inf (.string ⟨#[]⟩) 1 16 Tryz.underlying153 i1 i2 i3 i4 rfl (by decide) _ _ _ rfl (World.ownsRow.alloc ho _) ⟨wr.heap.size,0,none⟩ 1 1 [.string ⟨#[]⟩] rfl rfl (by intro q u hq;cases q with|zero=>simp at hq;subst hq;simp [Addr.add,go_sem]|succ q=>simp at hq) (by simp [Value.oneCell']) (by unfold maxLen;omega) (by omega) (by simp<;>omega) ?_;intro x0 w4 ho0 hg0 _)
    have hB4:Below w.heap.size w w4:=(hB.alloc (by omega) _).grown hg0 (by simp<;>omega) (by intro k hk;have:=(World.ownsRow.lt ho k hk).1;omega)
    go_roundw
    case rel=>exact⟨k+1,by omega,by go_num,by rw [hst2.out];simpa [OwnsT,strV] using ho0,hB4⟩
    case measure=>simp [intOf];omega
   ·have he':((s[k].toNat:Int)==(b.toNat:Int))=false:=by
     rw [beq_eq_false_iff_ne];intro h;exact he (UInt8.toNat_inj.1 (by omega))
    have hst2:Hid (cutsAt b (s.data.toList.take (k+1))=P.set (P.length-1) (P.getLastD []++[s[k]])):=by show _=_;rw [hst.out];unfold cutStepAt;rw [if_neg he,last_set _ hne]
    clear he;obtain⟨m,hm⟩:∃m,P.length=m+1:=⟨P.length-1,by have:=List.length_pos_iff.2 hne;omega⟩;rcases ho.2 with⟨_,hn0⟩|⟨g,cap,cur,rfl,hg,hh,_⟩
    ·omega
    have ho':wr.ownsRow w.heap.size 9 1 (.slice (some ⟨g,0,none⟩) P.length cap) P.length (P.map strV):=ho;have hla:=last_at P hne;have hll:(P.getLastD []).length≤1048576:=by
     have e:P.getLastD []∈P:=List.mem_of_getElem? hla;have:=hcl.2 _ e;omega
    have c0:wr.cell? ⟨g,m,none⟩=some (.string ⟨(P.getLastD []).toArray⟩):=by
     rw [ho'.cellAt m (by omega),List.getElem?_map,show m=P.length-1 by omega,hla];rfl
    have f0:wr.frozen? ⟨g,m,none⟩=false:=ho'.frozenAt m;have hglt:g<wr.heap.size:=(ho'.lt g rfl).2;have hgs:=(ho'.stored m (strV (P.getLastD []++[s[k]]))).1.alloc (.cells #[.int .u8 (s[k].toNat:Int)] 5);have R:Hid (((wr.setCell ⟨g,m,none⟩ (strV (P.getLastD []++[s[k]]))).alloc (.cells #[.int .u8 (s[k].toNat:Int)] 5)).ownsRow w.heap.size 9 1 (.slice (some ⟨g,0,none⟩) P.length cap) P.length ((P.map strV).set m (strV (P.getLastD []++[s[k]])))):=hgs;have e9':Hid ((P.set m (P.getLastD []++[s[k]])).length=m+1):=by show _=_;rw [List.length_set];exact hm
    have hcv:=conv_one_drew wr (s[k].toNat:Int);rw [nums_one] at hcv;have hcat:=cat (P.getLastD []) [s[k]];have hst3:Hid (cutsAt b (s.data.toList.take (k+1))=P.set m (P.getLastD []++[s[k]])):=by show _=_;rw [hst2.out,show P.length-1=m by omega]
    generalize P.getLastD []=q at *;clear ho ho' hh hla hgs hst2 hst;have hmb:m≤1048576:=by omega
    have hwm:IntKind.i64.wrap (m:Int)=(m:Int):=by simp [IntKind.wrap,IntKind.bits,IntKind.signed];omega
    rw [hm] at *;clear hm
    go_wp2_with fail
    go_region
    go_step
    go_wp2_with fail
    go_roundw
    case rel =>
     refine⟨k+1,by omega,by go_num,?_,?_⟩
     ·rw [hst3.out];have h9:=World.ownsRow.drew R.out;rw [←List.map_set] at h9;unfold OwnsT;rw [e9'.out];exact h9
     ·exact((hB.setCell (p:=⟨g,m,none⟩) hg _).alloc (by simpa [World.setCell] using hzr) _).drew
    case measure=>simp [intOf];omega
  ·have e:k=s.size:=by omega
   subst e;have ht:Hid (s.data.toList.take s.size=s.data.toList):=by show _=_;rw [←hlen,List.take_length]
   go_wp2_with fail
   go_ret
   exact⟨_,rfl,by rw [ht.out] at ho;exact ho,hB⟩
def OpV.txt (o:OpV):List UInt8:=opTxt o.k o.r o.s o.t o.a o.b
def linesOf (C:List OpV):List UInt8:=C.flatMap fun o=>o.txt++[10]
theorem lines_take (C:List OpV) (k:Nat) (h:k<C.length):linesOf (C.take (k+1))=linesOf (C.take k)++(C[k].txt++[10]):=by
 unfold linesOf;rw [List.take_add_one,List.getElem?_eq_getElem h,List.flatMap_append];simp
theorem lines_len (C:List OpV) (hC:codeB C=true):∀k,k≤C.length→(linesOf (C.take k)).length≤23*k
 |0,_=>by simp [linesOf]
 |k+1,h=>by
  have ih:=lines_len C hC k (by omega);have hk:k<C.length:=by omega
  have:=opTxt_len ((codeB_well hC).2.2 k hk);rw [lines_take C k hk];simp [OpV.txt] at this ⊢;omega
def joinT (ls:List (List UInt8)):List UInt8:=ls.dropLast.flatMap (·++[10])++ls.getLastD []
theorem joinT_snoc (A:List (List UInt8)) (z:List UInt8):joinT (A++[z])=A.flatMap (·++[10])++z:=by simp [joinT]
theorem snoc_of {ls:List (List UInt8)} (h:ls≠[]):∃A z,ls=A++[z]:=⟨_,_,(List.dropLast_concat_getLast h).symm⟩
theorem joinT_step (ls:List (List UInt8)) (h:ls≠[]) (c:UInt8):joinT (cutStepAt 10 ls c)=joinT ls++[c]:=by
 obtain⟨A,z,rfl⟩:=snoc_of h;unfold cutStepAt
 split
 ·rename_i e;subst e
  rw [joinT_snoc,joinT_snoc];simp
 ·have e1:(A++[z]).dropLast=A:=by simp
  have e2:(A++[z]).getLastD []=z:=by simp
  rw [e1,e2,joinT_snoc,joinT_snoc];simp
theorem joinT_cuts (x:List UInt8):joinT (cutsAt 10 x)=x:=by
 have key:∀(t:List UInt8) (ls:List (List UInt8)),ls≠[]→joinT (t.foldl (cutStepAt 10) ls)=joinT ls++t:=by
  intro t
  induction t with
  |nil=>intro ls _;simp
  |cons c t ih=>intro ls h;rw [List.foldl_cons,ih _ (cutStepAt_some 10 ls c),joinT_step ls h];simp
 have:=key x [[]] (by simp);simpa [cutsAt,joinT] using this
theorem fold_line (t:List UInt8):∀(P:List (List UInt8)) (q:List UInt8),(∀c∈t,c≠10)→t.foldl (cutStepAt 10) (P++[q])=P++[q++t]:=by
 induction t with
 |nil=>intro P q _;simp
 |cons c t ih =>
  intro P q h;have hc:c≠10:=h c (by simp);have e:cutStepAt 10 (P++[q]) c=P++[q++[c]]:=by unfold cutStepAt;rw [if_neg hc];simp
  rw [List.foldl_cons,e,ih P (q++[c]) (fun d hd=>h d (by simp [hd]))];simp
theorem fold_lines:∀(A P:List (List UInt8)),(∀l∈A,∀c∈l,c≠10)→(A.flatMap (·++[10])).foldl (cutStepAt 10) (P++[[]])=P++A++[[]]
 |[],P,_=>by simp
 |l::A,P,h=>by
  have e:cutStepAt 10 (P++[l]) 10=(P++[l])++[[]]:=by unfold cutStepAt;rw [if_pos rfl]
  rw [List.flatMap_cons,List.foldl_append,List.foldl_append,fold_line l P [] (h l (by simp)),List.nil_append,List.foldl_cons,List.foldl_nil,e,fold_lines A (P++[l]) (fun m hm=>h m (by simp [hm]))];simp
theorem cuts_lines (A:List (List UInt8)) (h:∀l∈A,∀c∈l,c≠10):cutsAt 10 (A.flatMap (·++[10]))=A++[[]]:=by
 have:=fold_lines A [] h;simpa [cutsAt] using this
def NoL (a:List UInt8):Prop:=∀x∈a,x≠10
theorem NoL.app {a b:List UInt8} (h:NoL a) (k:NoL b):NoL (a++b):=fun x hx=>by
 rcases List.mem_append.1 hx with hx|hx
 ·exact h x hx
 ·exact k x hx
theorem NoL.part (b:Bool) {a:List UInt8} (h:NoL a):NoL (part b a):=by
 cases b with
 |false=>intro x hx;simp [Go.Proofs.YtgmkmeodimmdoaaGreatDoor.Eld.part] at hx
 |true =>
  intro x hx;simp [Go.Proofs.YtgmkmeodimmdoaaGreatDoor.Eld.part] at hx;rcases hx with rfl|hx
  ·decide
  ·exact h x hx
theorem figL:∀u:Nat,u<10→UInt8.ofNat (48+u)≠10:=by decide
theorem nol_dec (u:Nat) (h:u<100):NoL (Lib.decDigits u):=by
 intro x hx;by_cases h1:u<10
 ·rw [dec_lt10 u h1] at hx;rw [List.mem_singleton.1 hx];exact figL u h1
 ·rw [dec_lt100 u (by omega) h] at hx;rcases List.mem_cons.1 hx with rfl|hx
  ·exact figL _ (by omega)
  ·rw [List.mem_singleton.1 hx];exact figL _ (by omega)
theorem nol_itoa (n:Int) (h1 : -99≤n) (h2:n≤99):NoL (Lib.itoa n):=by
 by_cases h:n<0
 ·rw [itoa_neg n h,itoa_pos (-n) (by omega)];intro x hx;rcases List.mem_cons.1 hx with rfl|hx
  ·decide
  ·exact nol_dec _ (by omega) x hx
 ·rw [itoa_pos n (by omega)];exact nol_dec _ (by omega)
theorem nol_txt {k n:Int} (h:okB k n=true):NoL (txt k n):=by
 have b:=okB_bd h;have c:=nol_itoa n b.1 b.2;rcases okB_kinds h with rfl|rfl|rfl|rfl
 ·rw [txt_none h];intro x hx;simp at hx;rcases hx with rfl|rfl|rfl|rfl<;>decide
 ·rw [txt_num h];intro x hx;rcases List.mem_cons.1 hx with rfl|hx;decide;exact c x hx
 ·rw [txt_name h];intro x hx;rcases List.mem_cons.1 hx with rfl|hx;decide;exact c x hx
 ·rw [txt_run h];intro x hx;rcases List.mem_cons.1 hx with rfl|hx;decide;exact c x hx
theorem words_nol:∀i:Nat,i<15→∀x∈wordL.getD i [],x≠10:=by decide
theorem nol_op {k r s t a b:Int} (h:opB k r s t a b=true):NoL (opTxt k r s t a b):=by
 have o:=opIs_of h;have br:=o.r1;have br2:=o.r2;have bs:=o.s1;have bs2:=o.s2;have bt:=o.t1;have bt2:=o.t2;have bk:=o.k1;have bk2:=o.k2
 rw [opTxt_ok h,opTail];exact NoL.app (words_nol k.toNat (by omega)) (NoL.app (NoL.part _ (nol_itoa r (by omega) (by omega))) (NoL.app (NoL.part _ (nol_itoa s (by omega) (by omega))) (NoL.app (NoL.part _ (nol_itoa t (by omega) (by omega))) (NoL.part _ (nol_txt o.v)))))
theorem cuts_code {C:List OpV} (h:codeB C=true):cutsAt 10 (linesOf C)=C.map OpV.txt++[[]]:=by
 have hw:=(codeB_well h).2.2;have e:linesOf C=(C.map OpV.txt).flatMap (·++[10]):=by unfold linesOf;rw [List.flatMap_map]
 rw [e];refine cuts_lines _ (fun l hl=>?_);obtain⟨o,ho,rfl⟩:=List.mem_map.1 hl;obtain⟨i,hi,rfl⟩:=List.getElem_of_mem ho;exact nol_op (hw i hi)
theorem lines_code_len {C:List OpV} (h:codeB C=true):(linesOf C).length≤368:=by
 have:=lines_len C h C.length (Nat.le_refl _);rw [List.take_length] at this;have:=(codeB_well h).2.1;omega
def ReadCode (x:List UInt8) (C:List OpV) (ok:Bool):Prop :=
 (ok=true∧codeB C=true∧x=linesOf C)∨(ok=false∧C=[]∧∀D,codeB D=true→x≠linesOf D)
def LinesTo (x:List UInt8) (k:Nat) (O:List OpV):Prop :=
 O.length=k∧∀i (h:i<O.length),O[i].ok=true∧(cutsAt 10 x)[i]?=some O[i].txt
theorem LinesTo.zero (x:List UInt8):LinesTo x 0 []:=⟨rfl,fun i h=>by simp at h⟩
theorem LinesTo.next {x:List UInt8} {k:Nat} {O:List OpV} (h:LinesTo x k O) {o:OpV} (ho:o.ok=true) (hl:(cutsAt 10 x)[k]?=some o.txt):LinesTo x (k+1) (O++[o]):=by
 refine⟨by simp [h.1],fun i hi=>?_⟩;by_cases e:i<O.length
 ·rw [List.getElem_append_left e];exact h.2 i e
 ·have:i=O.length:=by simp at hi;omega
  subst this;rw [List.getElem_append_right (Nat.le_refl _)];simp [ho];rw [h.1];exact hl
theorem read_no_line {x:List UInt8} {k:Nat} {l:List UInt8} (hk:k+1<(cutsAt 10 x).length) (hl:(cutsAt 10 x)[k]?=some l) (hn:∀k r s t a b,opB k r s t a b=true→l≠opTxt k r s t a b):ReadCode x [] false:=by
 refine .inr ⟨rfl,rfl,fun D hD e=>?_⟩;rw [e,cuts_code hD] at hk hl;have hk2:k<D.length:=by simp at hk;omega
 rw [List.getElem?_append_left (by simpa using hk2),List.getElem?_map,List.getElem?_eq_getElem hk2] at hl;simp at hl;have:=(codeB_well hD).2.2 k hk2;exact hn _ _ _ _ _ _ this hl.symm
theorem read_no_end {x:List UInt8} (h:(cutsAt 10 x).length≤1∨(cutsAt 10 x).getLastD []≠[]):ReadCode x [] false:=by
 refine .inr ⟨rfl,rfl,fun D hD e=>?_⟩;rw [e,cuts_code hD] at h;have:=(codeB_well hD).1.1;rcases h with h|h
 ·rw [List.length_append,List.length_map,List.length_singleton] at h;omega
 ·simp at h
theorem read_long {x:List UInt8} (h:400<x.length):ReadCode x [] false:=by
 refine .inr ⟨rfl,rfl,fun D hD e=>?_⟩;have:=lines_code_len hD;rw [←e] at this;omega
theorem lines_all {x:List UInt8} {O:List OpV} (h:LinesTo x O.length O) (hn:(cutsAt 10 x).length=O.length+1) (hz:(cutsAt 10 x).getLastD []=[]):x=linesOf O:=by
 have hc:cutsAt 10 x=O.map OpV.txt++[[]]:=by
  apply List.ext_getElem?
  intro i;by_cases hi:i<O.length
  ·rw [(h.2 i hi).2,List.getElem?_append_left (by simpa using hi),List.getElem?_map,List.getElem?_eq_getElem hi];rfl
  ·by_cases hi2:i=O.length
   ·subst hi2;rw [List.getElem?_append_right (by simp)];simp;have e:(cutsAt 10 x).getLastD []=[]:=hz;rw [List.getLastD_eq_getLast?,List.getLast?_eq_getElem?,hn] at e;simp only [Nat.add_sub_cancel] at e
    cases hq:(cutsAt 10 x)[O.length]? with
    |none=>rw [List.getElem?_eq_none_iff] at hq;omega
    |some q=>rw [hq] at e;simp at e;rw [e]
   ·rw [List.getElem?_eq_none (by omega),List.getElem?_eq_none (by simp;omega)]
 have:=joinT_cuts x;rw [hc,joinT_snoc] at this;rw [←this];unfold linesOf;rw [List.flatMap_map];simp
theorem read_all {x:List UInt8} {O:List OpV} (h:LinesTo x O.length O) (hn:(cutsAt 10 x).length=O.length+1) (hz:(cutsAt 10 x).getLastD []=[]) :
  (codeB O=true→ReadCode x O true)∧(codeB O=false→ReadCode x [] false):=by
 have hx:=lines_all h hn hz;refine⟨fun hb=>.inl ⟨rfl,hb,hx⟩,fun hb=>.inr ⟨rfl,rfl,fun D hD e=>?_⟩⟩;have hlen:D.length=O.length:=by
  rw [e,cuts_code hD] at hn;simpa using hn
 have:D=O:=by
  apply List.ext_getElem hlen
  intro i h1 h2;obtain⟨k1,k2⟩:=h.2 i h2;rw [e,cuts_code hD,List.getElem?_append_left (by simpa using h1),List.getElem?_map,List.getElem?_eq_getElem h1] at k2;simp at k2;have d1:=(codeB_well hD).2.2 i h1;obtain⟨e1,e2,e3,e4,e5,e6⟩:=opTxt_inj (h1:=d1) (h2:=k1) k2;generalize D[i]=y at *;generalize O[i]=z at *
  cases y;cases z;simp at *;exact⟨e1,e2,e3,e4,e5,e6⟩
 rw [this,hb] at hD;cases hD
theorem ReadCode.of_code {x:List UInt8} {C D:List OpV} {ok:Bool} (h:ReadCode x C ok) (hD:codeB D=true) (e:x=linesOf D):ok=true∧C=D:=by
 rcases h with⟨h1,h2,h3⟩|⟨_,_,h3⟩
 ·refine⟨h1,?_⟩;have hc:C.map OpV.txt++[[]]=D.map OpV.txt++[[]]:=by rw [←cuts_code h2,←cuts_code hD,←h3,e]
  have hm:C.map OpV.txt=D.map OpV.txt:=(List.append_inj' hc rfl).1;have hlen:C.length=D.length:=by simpa using congrArg List.length hm
  apply List.ext_getElem hlen
  intro i i1 i2;have k2:C[i].txt=D[i].txt:=by
   have:=congrArg (fun l=>l[i]?) hm;simpa [List.getElem?_map,List.getElem?_eq_getElem i1,List.getElem?_eq_getElem i2] using this
  obtain⟨e1,e2,e3,e4,e5,e6⟩:=opTxt_inj (h1:=(codeB_well h2).2.2 i i1) (h2:=(codeB_well hD).2.2 i i2) k2;generalize C[i]=y at *;generalize D[i]=z at *
  cases y;cases z;simp at *;exact⟨e1,e2,e3,e4,e5,e6⟩
 ·exact absurd e (h3 D hD)
def text0:List UInt8:=[98,101,103,105,110,32,49,32,54,10,108,105,110,107,32,49,10,115,101,116,32,50,32,110,51,10,115,101,110,100,32,49,32,50,10,116,97,107,101,32,51,32,49,10,101,110,100,32,51,10,116,97,107,101,32,49,32,49,10,115,101,116,32,50,32,110,49,10,97,100,100,32,49,32,50,10,115,101,110,100,32,48,32,49,10,103,111,32,54,10]
def code0:List OpV:=[⟨5,1,0,6,0,0⟩,⟨11,1,0,0,0,0⟩,⟨1,2,0,0,1,3⟩,⟨6,1,2,0,0,0⟩,⟨7,3,1,0,0,0⟩,⟨14,3,0,0,0,0⟩,⟨7,1,1,0,0,0⟩,⟨1,2,0,0,1,1⟩,⟨3,1,2,0,0,0⟩,⟨6,0,1,0,0,0⟩,⟨9,0,0,6,0,0⟩]
theorem code0_ok:codeB code0=true:=by decide +kernel
theorem text0_eq:text0=linesOf code0:=by decide +kernel
def text1:List UInt8:=[116,114,97,112,32,110,49,10,98,101,103,105,110,32,49,32,55,10,98,101,103,105,110,32,50,32,55,10,108,105,110,107,32,49,10,108,105,110,107,32,50,10,116,97,107,101,32,51,32,51,10,103,111,32,53,10,115,101,108,102,32,49,10,97,102,116,101,114,32,50,32,48,32,49,48,32,110,50,10,101,110,100,32,50,10,115,101,116,32,51,32,97,52,10,101,110,100,32,51,10]
def code1:List OpV:=[⟨13,0,0,0,1,1⟩,⟨5,1,0,7,0,0⟩,⟨5,2,0,7,0,0⟩,⟨11,1,0,0,0,0⟩,⟨11,2,0,0,0,0⟩,⟨7,3,3,0,0,0⟩,⟨9,0,0,5,0,0⟩,⟨4,1,0,0,0,0⟩,⟨8,2,0,10,1,2⟩,⟨14,2,0,0,0,0⟩,⟨1,3,0,0,2,4⟩,⟨14,3,0,0,0,0⟩]
theorem code1_ok:codeB code1=true:=by decide +kernel
theorem text1_eq:text1=linesOf code1:=by decide +kernel
def text2:List UInt8:=[98,101,103,105,110,32,49,32,53,10,119,97,116,99,104,32,49,10,116,97,107,101,32,50,32,48,10,109,111,118,101,32,51,32,50,10,103,111,32,50,10,108,105,110,107,32,48,10,116,97,107,101,32,49,32,50,10,105,102,32,49,32,57,32,97,48,10,103,111,32,54,10,101,110,100,32,49,10]
def code2:List OpV:=[⟨5,1,0,5,0,0⟩,⟨12,1,0,0,0,0⟩,⟨7,2,0,0,0,0⟩,⟨2,3,2,0,0,0⟩,⟨9,0,0,2,0,0⟩,⟨11,0,0,0,0,0⟩,⟨7,1,2,0,0,0⟩,⟨10,1,0,9,2,0⟩,⟨9,0,0,6,0,0⟩,⟨14,1,0,0,0,0⟩]
theorem code2_ok:codeB code2=true:=by decide +kernel
theorem text2_eq:text2=linesOf code2:=by decide +kernel
def text3:List UInt8:=[115,101,116,32,49,32,110,48,10,115,101,116,32,50,32,110,49,10,98,101,103,105,110,32,51,32,54,10,97,100,100,32,49,32,50,10,115,101,110,100,32,51,32,49,10,103,111,32,51,10,116,97,107,101,32,49,32,49,10,97,102,116,101,114,32,50,32,50,32,54,32,110,49,10,101,110,100,32,50,10]
def code3:List OpV:=[⟨1,1,0,0,1,0⟩,⟨1,2,0,0,1,1⟩,⟨5,3,0,6,0,0⟩,⟨3,1,2,0,0,0⟩,⟨6,3,1,0,0,0⟩,⟨9,0,0,3,0,0⟩,⟨7,1,1,0,0,0⟩,⟨8,2,2,6,1,1⟩,⟨14,2,0,0,0,0⟩]
theorem code3_ok:codeB code3=true:=by decide +kernel
theorem text3_eq:text3=linesOf code3:=by decide +kernel
def text4:List UInt8:=[98,101,103,105,110,32,49,32,51,10,108,105,110,107,32,49,10,103,111,32,48,10,98,101,103,105,110,32,50,32,54,10,108,105,110,107,32,50,10,103,111,32,55,10,108,105,110,107,32,48,10,116,97,107,101,32,51,32,48,10,101,110,100,32,51,10]
def code4:List OpV:=[⟨5,1,0,3,0,0⟩,⟨11,1,0,0,0,0⟩,⟨9,0,0,0,0,0⟩,⟨5,2,0,6,0,0⟩,⟨11,2,0,0,0,0⟩,⟨9,0,0,7,0,0⟩,⟨11,0,0,0,0,0⟩,⟨7,3,0,0,0,0⟩,⟨14,3,0,0,0,0⟩]
theorem code4_ok:codeB code4=true:=by decide +kernel
theorem text4_eq:text4=linesOf code4:=by decide +kernel
def textsL:List (List UInt8):=[text0,text1,text2,text3,text4]
theorem texts_code (i:Nat) (h:i<5):∃D:List OpV,codeB D=true∧textsL.getD i []=linesOf D∧1≤D.length∧D.length≤16:=by
 have key:∀D:List OpV,codeB D=true→1≤D.length∧D.length≤16:=fun D hD=>⟨(codeB_well hD).1.1,(codeB_well hD).2.1⟩
 rcases (by omega:i=0∨i=1∨i=2∨i=3∨i=4) with rfl|rfl|rfl|rfl|rfl
 ·exact⟨code0,code0_ok,text0_eq,key _ code0_ok⟩
 ·exact⟨code1,code1_ok,text1_eq,key _ code1_ok⟩
 ·exact⟨code2,code2_ok,text2_eq,key _ code2_ok⟩
 ·exact⟨code3,code3_ok,text3_eq,key _ code3_ok⟩
 ·exact⟨code4,code4_ok,text4_eq,key _ code4_ok⟩
theorem texts_len (i:Nat) (h:i<5):(textsL.getD i []).length≤400:=by
 rcases (by omega:i=0∨i=1∨i=2∨i=3∨i=4) with rfl|rfl|rfl|rfl|rfl<;>decide +kernel
end Go.Proofs.YtgmkmeodimmdoaaGreatDoor.Eld
