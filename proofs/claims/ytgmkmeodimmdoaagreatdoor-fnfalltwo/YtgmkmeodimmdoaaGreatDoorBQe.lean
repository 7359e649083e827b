import Derived.Test.YtgmkmeodimmdoaaGreatDoorBQd
import Derived.Laws.Closers25b
set_option maxHeartbeats 4000000
set_option maxRecDepth 100000
namespace Go.Proofs.YtgmkmeodimmdoaaGreatDoor.Eld
open Go.ChangeShapes Go.WideShapes Go.ChangeAt Go.RowKit Go.Joins
def alld (l:List UInt8):Bool:=l.all fun c=>decide (48≤c.toNat)&&decide (c.toNat≤57)
def valD (l:List UInt8):Int:=l.foldl (fun n c=>10*n+((c.toNat:Int)-48)) 0
theorem alld_snoc (l:List UInt8) (c:UInt8):alld (l++[c])=(alld l&&(decide (48≤c.toNat)&&decide (c.toNat≤57))):=by simp [alld,List.all_append]
theorem valD_snoc (l:List UInt8) (c:UInt8):valD (l++[c])=10*valD l+((c.toNat:Int)-48):=by simp [valD,List.foldl_append]
theorem take_snoc (s:ByteArray) (k:Nat) (h:k<s.size):s.data.toList.take (k+1)=s.data.toList.take k++[s[k]]:=by
 rw [List.take_succ_eq_append_getElem (by simpa using h)];rfl
theorem valD_bd:∀(l:List UInt8),l.length≤2→alld l=true→0≤valD l∧valD l≤99∧(l.length≤1→valD l≤9)∧(l.length=0→valD l=0)
 |[],_,_=>⟨by decide,by decide,fun _=>by decide,fun _=>rfl⟩
 |[a],_,h=>by
  have h':48≤a.toNat∧a.toNat≤57:=by simpa [alld] using h
  have e:valD [a]=(a.toNat:Int)-48:=by simp [valD]
  rw [e];simp only [List.length_singleton];omega
 |[a,b],_,h=>by
  have h':(48≤a.toNat∧a.toNat≤57)∧48≤b.toNat∧b.toNat≤57:=by simpa [alld] using h
  have e:valD [a,b]=10*((a.toNat:Int)-48)+((b.toNat:Int)-48):=by simp [valD]
  rw [e];simp only [List.length_cons,List.length_nil];omega
 |_::_::_::_,hl,_=>by simp at hl
theorem alld_take {l:List UInt8} {k:Nat} (h:alld (l.take k)=false):alld l=false:=by
 rw [Bool.eq_false_iff] at h ⊢;intro hl
 apply h
 simp only [alld,List.all_eq_true] at hl ⊢;exact fun x hx=>hl x (List.mem_of_mem_take hx)
def resD (sg:Int) (l:List UInt8):Value:=if alld l=true then .tuple #[.int .i64 (sg*valD l),.bool true] else .tuple #[.int .i64 0,.bool false]
theorem resD_yes {sg:Int} {l:List UInt8} (h:alld l=true):resD sg l=.tuple #[.int .i64 (sg*valD l),.bool true]:=if_pos h
theorem resD_no {sg:Int} {l:List UInt8} (h:alld l=false):resD sg l=.tuple #[.int .i64 0,.bool false]:=if_neg (by rw [h];decide)
theorem l1Dec_two (s:ByteArray) (w:World) (h2:2≤s.size) (h2':s.size≤2) (h0:((s[0].toNat:Int)==45)=false) :
  Calls Tryz.prog 207 #[.string s] w fun e w'=>e=.returned (resD 1 s.data.toList)∧w'=w:=by
 have hlen:s.data.toList.length=s.size:=Array.length_toList;have g1:(decide ((1:Int)≤(s.size:Int))&&decide ((s.size:Int)≤2))=true:=by rw [Bool.and_eq_true,decide_eq_true_eq,decide_eq_true_eq];omega
 have g2:(1:Int)<(s.size:Int):=by omega
 have g3:(0:Int)<(s.size:Int):=by omega
 go_enter Tryz.func207,Tryz.ntmps207
 go_wp2_with (go_at_call 40;refine(l6In_any _ _ _ _).mono ?_;rintro e w1 ⟨rfl,rfl⟩)
 go_loop [5,6] (fun x i=>∃k:Nat,k≤s.size∧i=.int .i64 k∧x=.int .i64 (valD (s.data.toList.take k))∧Hid (alld (s.data.toList.take k)=true)) (fun _ i=>s.size-(intOf i).toNat)
 case atStart=>exact⟨0,Nat.zero_le _,rfl,rfl,rfl⟩
 case round =>
  obtain⟨k,hk,rfl,rfl,hal⟩:=hrel;have hll:(s.data.toList.take k).length≤k:=List.length_take_le _ _;have hbd:=valD_bd (s.data.toList.take k) (by omega) hal.out;have hv0:=hbd.1;have hv1:=hbd.2.1;by_cases hlt:k<s.size
  ·have hv2:=hbd.2.2.1 (by omega);have hks:(0:Int)≤(k:Int):=by omega
   have hks2:(k:Int)<(s.size:Int):=by omega
   have HV:Hid (valD (s.data.toList.take (k+1))=10*valD (s.data.toList.take k)+((s[k].toNat:Int)-48)):=by show valD (s.data.toList.take (k+1))=_;rw [take_snoc s k hlt,valD_snoc]
   have HD:Hid (alld (s.data.toList.take (k+1))=(decide (48≤s[k].toNat)&&decide (s[k].toNat≤57))):=by show alld (s.data.toList.take (k+1))=_;rw [take_snoc s k hlt,alld_snoc,hal.out,Bool.true_and]
   have hu:=UInt8.toNat_lt s[k];clear hbd;by_cases hd1:48≤s[k].toNat
   ·by_cases hd2:s[k].toNat≤57
    ·have i1:¬((s[k].toNat:Int)<48):=by omega
     have i2:¬((57:Int)<(s[k].toNat:Int)):=by omega
     generalize hvv:valD (s.data.toList.take k)=x at *
     go_wp2_with fail
     go_round
     case rel=>exact⟨k+1,by omega,by go_num,by rw [HV.out],by show alld _=true;rw [HD.out];simp;omega⟩
     case measure=>simp [intOf];omega
    ·have i1:¬((s[k].toNat:Int)<48):=by omega
     have i2:(57:Int)<(s[k].toNat:Int):=by omega
     have HR:Hid (resD 1 s.data.toList=.tuple #[.int .i64 0,.bool false]):=resD_no (alld_take (k:=k+1) (by rw [HD.out];simp;omega))
     go_wp2_with fail
     go_ret2
     exact⟨by rw [HR.out];rfl,rfl⟩
   ·have i1:((s[k].toNat:Int)<48):=by omega
    have HR:Hid (resD 1 s.data.toList=.tuple #[.int .i64 0,.bool false]):=resD_no (alld_take (k:=k+1) (by rw [HD.out];simp;omega))
    go_wp2_with fail
    go_ret2
    exact⟨by rw [HR.out];rfl,rfl⟩
  ·have hkt:s.data.toList.take k=s.data.toList:=List.take_of_length_le (by rw [hlen];omega);have HR:Hid (resD 1 s.data.toList=.tuple #[.int .i64 (1*valD (s.data.toList.take k)),.bool true]):=by show resD 1 s.data.toList=_;rw [hkt] at hal ⊢;exact resD_yes hal.out
   have hks2:¬(k:Int)<(s.size:Int):=by omega
   clear hkt hbd;generalize valD (s.data.toList.take k)=x at *
   go_wp2_with fail
   go_ret2
   exact⟨by rw [HR.out];simp,rfl⟩
theorem l1Dec_one (s:ByteArray) (w:World) (h1:1≤s.size) (h2:s.size≤1) :
  Calls Tryz.prog 207 #[.string s] w fun e w'=>e=.returned (resD 1 s.data.toList)∧w'=w:=by
 have hlen:s.data.toList.length=s.size:=Array.length_toList;have g1:(decide ((1:Int)≤(s.size:Int))&&decide ((s.size:Int)≤2))=true:=by rw [Bool.and_eq_true,decide_eq_true_eq,decide_eq_true_eq];omega
 have g2:¬(1:Int)<(s.size:Int):=by omega
 go_enter Tryz.func207,Tryz.ntmps207
 go_wp2_with (go_at_call 40;refine(l6In_any _ _ _ _).mono ?_;rintro e w1 ⟨rfl,rfl⟩)
 go_loop [5,6] (fun x i=>∃k:Nat,k≤s.size∧i=.int .i64 k∧x=.int .i64 (valD (s.data.toList.take k))∧Hid (alld (s.data.toList.take k)=true)) (fun _ i=>s.size-(intOf i).toNat)
 case atStart=>exact⟨0,Nat.zero_le _,rfl,rfl,rfl⟩
 case round =>
  obtain⟨k,hk,rfl,rfl,hal⟩:=hrel;have hll:(s.data.toList.take k).length≤k:=List.length_take_le _ _;have hbd:=valD_bd (s.data.toList.take k) (by omega) hal.out;have hv0:=hbd.1;have hv1:=hbd.2.1;by_cases hlt:k<s.size
  ·have hv2:=hbd.2.2.1 (by omega);have hks:(0:Int)≤(k:Int):=by omega
   have hks2:(k:Int)<(s.size:Int):=by omega
   have HV:Hid (valD (s.data.toList.take (k+1))=10*valD (s.data.toList.take k)+((s[k].toNat:Int)-48)):=by show valD (s.data.toList.take (k+1))=_;rw [take_snoc s k hlt,valD_snoc]
   have HD:Hid (alld (s.data.toList.take (k+1))=(decide (48≤s[k].toNat)&&decide (s[k].toNat≤57))):=by show alld (s.data.toList.take (k+1))=_;rw [take_snoc s k hlt,alld_snoc,hal.out,Bool.true_and]
   have hu:=UInt8.toNat_lt s[k];clear hbd;by_cases hd1:48≤s[k].toNat
   ·by_cases hd2:s[k].toNat≤57
    ·have i1:¬((s[k].toNat:Int)<48):=by omega
     have i2:¬((57:Int)<(s[k].toNat:Int)):=by omega
     generalize hvv:valD (s.data.toList.take k)=x at *
     go_wp2_with fail
     go_round
     case rel=>exact⟨k+1,by omega,by go_num,by rw [HV.out],by show alld _=true;rw [HD.out];simp;omega⟩
     case measure=>simp [intOf];omega
    ·have i1:¬((s[k].toNat:Int)<48):=by omega
     have i2:(57:Int)<(s[k].toNat:Int):=by omega
     have HR:Hid (resD 1 s.data.toList=.tuple #[.int .i64 0,.bool false]):=resD_no (alld_take (k:=k+1) (by rw [HD.out];simp;omega))
     go_wp2_with fail
     go_ret2
     exact⟨by rw [HR.out];rfl,rfl⟩
   ·have i1:((s[k].toNat:Int)<48):=by omega
    have HR:Hid (resD 1 s.data.toList=.tuple #[.int .i64 0,.bool false]):=resD_no (alld_take (k:=k+1) (by rw [HD.out];simp;omega))
    go_wp2_with fail
    go_ret2
    exact⟨by rw [HR.out];rfl,rfl⟩
  ·have hkt:s.data.toList.take k=s.data.toList:=List.take_of_length_le (by rw [hlen];omega);have HR:Hid (resD 1 s.data.toList=.tuple #[.int .i64 (1*valD (s.data.toList.take k)),.bool true]):=by show resD 1 s.data.toList=_;rw [hkt] at hal ⊢;exact resD_yes hal.out
   have hks2:¬(k:Int)<(s.size:Int):=by omega
   clear hkt hbd;generalize valD (s.data.toList.take k)=x at *
   go_wp2_with fail
   go_ret2
   exact⟨by rw [HR.out];simp,rfl⟩
theorem l1Dec_minus (s t:ByteArray) (w:World) (hext:s.extract 1 s.size=t) (hs:2≤s.size) (ht1:1≤t.size) (ht2:t.size≤2) (h0:((s[0].toNat:Int)==45)=true) :
  Calls Tryz.prog 207 #[.string s] w fun e w'=>e=.returned (resD (-1) t.data.toList)∧w'=w:=by
 have hlen:t.data.toList.length=t.size:=Array.length_toList;have g1:(decide ((1:Int)≤(t.size:Int))&&decide ((t.size:Int)≤2))=true:=by rw [Bool.and_eq_true,decide_eq_true_eq,decide_eq_true_eq];omega
 have g2:(1:Int)<(s.size:Int):=by omega
 have g3:(0:Int)<(s.size:Int):=by omega
 have g4:(1:Int)≤(s.size:Int):=by omega
 go_enter Tryz.func207,Tryz.ntmps207
 go_wp2_with (go_at_call 40;refine(l6In_any _ _ _ _).mono ?_;rintro e w1 ⟨rfl,rfl⟩)
 go_loop [5,6] (fun x i=>∃k:Nat,k≤t.size∧i=.int .i64 k∧x=.int .i64 (valD (t.data.toList.take k))∧Hid (alld (t.data.toList.take k)=true)) (fun _ i=>t.size-(intOf i).toNat)
 case atStart=>exact⟨0,Nat.zero_le _,rfl,rfl,rfl⟩
 case round =>
  obtain⟨k,hk,rfl,rfl,hal⟩:=hrel;have hll:(t.data.toList.take k).length≤k:=List.length_take_le _ _;have hbd:=valD_bd (t.data.toList.take k) (by omega) hal.out;have hv0:=hbd.1;have hv1:=hbd.2.1;by_cases hlt:k<t.size
  ·have hv2:=hbd.2.2.1 (by omega);have hks:(0:Int)≤(k:Int):=by omega
   have hks2:(k:Int)<(t.size:Int):=by omega
   have HV:Hid (valD (t.data.toList.take (k+1))=10*valD (t.data.toList.take k)+((t[k].toNat:Int)-48)):=by show valD (t.data.toList.take (k+1))=_;rw [take_snoc t k hlt,valD_snoc]
   have HD:Hid (alld (t.data.toList.take (k+1))=(decide (48≤t[k].toNat)&&decide (t[k].toNat≤57))):=by show alld (t.data.toList.take (k+1))=_;rw [take_snoc t k hlt,alld_snoc,hal.out,Bool.true_and]
   have hu:=UInt8.toNat_lt t[k];clear hbd;by_cases hd1:48≤t[k].toNat
   ·by_cases hd2:t[k].toNat≤57
    ·have i1:¬((t[k].toNat:Int)<48):=by omega
     have i2:¬((57:Int)<(t[k].toNat:Int)):=by omega
     generalize hvv:valD (t.data.toList.take k)=x at *
     go_wp2_with fail
     go_round
     case rel=>exact⟨k+1,by omega,by go_num,by rw [HV.out],by show alld _=true;rw [HD.out];simp;omega⟩
     case measure=>simp [intOf];omega
    ·have i1:¬((t[k].toNat:Int)<48):=by omega
     have i2:(57:Int)<(t[k].toNat:Int):=by omega
     have HR:Hid (resD (-1) t.data.toList=.tuple #[.int .i64 0,.bool false]):=resD_no (alld_take (k:=k+1) (by rw [HD.out];simp;omega))
     go_wp2_with fail
     go_ret2
     exact⟨by rw [HR.out];rfl,rfl⟩
   ·have i1:((t[k].toNat:Int)<48):=by omega
    have HR:Hid (resD (-1) t.data.toList=.tuple #[.int .i64 0,.bool false]):=resD_no (alld_take (k:=k+1) (by rw [HD.out];simp;omega))
    go_wp2_with fail
    go_ret2
    exact⟨by rw [HR.out];rfl,rfl⟩
  ·have hkt:t.data.toList.take k=t.data.toList:=List.take_of_length_le (by rw [hlen];omega);have HR:Hid (resD (-1) t.data.toList=.tuple #[.int .i64 ((-1)*valD (t.data.toList.take k)),.bool true]):=by show resD (-1) t.data.toList=_;rw [hkt] at hal ⊢;exact resD_yes hal.out
   have hks2:¬(k:Int)<(t.size:Int):=by omega
   clear hkt hbd;generalize valD (t.data.toList.take k)=x at *
   go_wp2_with fail
   go_ret2
   exact⟨by rw [HR.out];simp,rfl⟩
theorem l1Dec_long (s:ByteArray) (w:World) (hs:3≤s.size) (hs2:s.size≤3) (h0:((s[0].toNat:Int)==45)=false) :
  Calls Tryz.prog 207 #[.string s] w fun e w'=>e=.returned (.tuple #[.int .i64 0,.bool false])∧w'=w:=by
 have g1:(decide ((1:Int)≤(s.size:Int))&&decide ((s.size:Int)≤2))=false:=by rw [Bool.and_eq_false_iff,decide_eq_false_iff_not,decide_eq_false_iff_not];omega
 have g2:(1:Int)<(s.size:Int):=by omega
 have g3:(0:Int)<(s.size:Int):=by omega
 go_enter Tryz.func207,Tryz.ntmps207
 go_wp2_with (go_at_call 40;refine(l6In_any _ _ _ _).mono ?_;rintro e w1 ⟨rfl,rfl⟩)
 go_ret2
 exact⟨rfl,rfl⟩
theorem alld_dec (u:Nat) (h:u<100):alld (Lib.decDigits u)=true:=by
 by_cases h10:u<10
 ·rw [dec_lt10 u h10];simp only [alld,List.all_cons,List.all_nil,fig u h10];simp;omega
 ·rw [dec_lt100 u (by omega) h];simp only [alld,List.all_cons,List.all_nil,fig (u / 10) (by omega),fig (u % 10) (by omega)];simp;omega
theorem valD_dec (u:Nat) (h:u<100):valD (Lib.decDigits u)=u:=by
 by_cases h10:u<10
 ·rw [dec_lt10 u h10];simp only [valD,List.foldl_cons,List.foldl_nil,fig u h10];omega
 ·rw [dec_lt100 u (by omega) h];simp only [valD,List.foldl_cons,List.foldl_nil,fig (u / 10) (by omega),fig (u % 10) (by omega)];omega
theorem dec_len1 (u:Nat) (h:u<100):1≤(Lib.decDigits u).length:=by
 by_cases h10:u<10
 ·rw [dec_lt10 u h10];simp
 ·rw [dec_lt100 u (by omega) h];simp
theorem ba_size (l:List UInt8):(ByteArray.mk l.toArray).size=l.length:=by simp [ByteArray.size]
theorem byte_ne {c:UInt8} {m:Nat} (hm:m<256) (h:c≠UInt8.ofNat m):c.toNat≠m:=by
 intro hh;apply h;apply UInt8.toNat_inj.1;rw [hh,UInt8.toNat_ofNat'];omega
theorem l1Dec_yes (n:Int) (w:World) (h1 : -99≤n) (h2:n≤99) :
  Calls Tryz.prog 207 #[.string ⟨(Lib.itoa n).toArray⟩] w fun e w'=>e=.returned (.tuple #[.int .i64 n,.bool true])∧w'=w:=by
 by_cases h:n<0
 ·rw [itoa_neg n h,itoa_pos (-n) (by omega)];have hu:(-n).toNat<100:=by omega
  have hl:=dec_len (-n).toNat hu;have hl1:=dec_len1 (-n).toNat hu;have e:=l1Dec_minus ⟨(45::Lib.decDigits (-n).toNat).toArray⟩ ⟨(Lib.decDigits (-n).toNat).toArray⟩ w (by rw [ba_size];exact extract_mk_tail _ _) (by rw [ba_size,List.length_cons];omega) (by rw [ba_size];omega) (by rw [ba_size];omega) rfl;rw [resD_yes (alld_dec _ hu)] at e;have ev:(-1:Int)*valD (Lib.decDigits (-n).toNat)=n:=by rw [valD_dec _ hu];omega
  have ev':(-1:Int)*valD (ByteArray.mk (Lib.decDigits (-n).toNat).toArray).data.toList=n:=ev;rw [ev'] at e;exact e
 ·rw [itoa_pos n (by omega)];have hu:n.toNat<100:=by omega
  have hl:=dec_len n.toNat hu;have hl1:=dec_len1 n.toNat hu;have ev:(1:Int)*valD (ByteArray.mk (Lib.decDigits n.toNat).toArray).data.toList=n:=by show (1:Int)*valD (Lib.decDigits n.toNat)=n;rw [valD_dec _ hu];omega
  by_cases hone:(Lib.decDigits n.toNat).length≤1
  ·have e:=l1Dec_one ⟨(Lib.decDigits n.toNat).toArray⟩ w (by rw [ba_size];omega) (by rw [ba_size];omega);rw [resD_yes (alld_dec _ hu),ev] at e;exact e
  ·obtain⟨b,r,hd,h45,_⟩:=dec_head n.toNat hu;have hbn:b≠45:=by simpa using h45
   have hx:=byte_ne (m:=45) (by omega) hbn;rw [hd] at ev hone hl ⊢;have al:alld (b::r)=true:=by rw [←hd];exact alld_dec _ hu
   have e:=l1Dec_two ⟨(b::r).toArray⟩ w (by rw [ba_size];omega) (by rw [ba_size];omega) (by show ((b.toNat:Int)==45)=false;rw [beq_eq_false_iff_ne];omega);rw [resD_yes al,ev] at e;exact e
theorem l1Dec_some (r:List UInt8) (h1:1≤r.length) (h3:r.length≤3):∃x b,∀w:World,
  Calls Tryz.prog 207 #[.string ⟨r.toArray⟩] w fun e w'=>e=.returned (.tuple #[.int .i64 x,.bool b])∧w'=w:=by
 have res:∀sg l,∃x b,resD sg l=.tuple #[.int .i64 x,.bool b]:=fun sg l=>by
  cases h:alld l with
  |true=>exact⟨_,_,resD_yes h⟩
  |false=>exact⟨_,_,resD_no h⟩
 match r,h1,h3 with
 |[a],_,_ =>
  obtain⟨x,b,hx⟩:=res 1 [a];exact⟨x,b,fun w=>by have e:=l1Dec_one ⟨#[a]⟩ w (by simp [ByteArray.size]) (by simp [ByteArray.size]);rw [show (ByteArray.mk #[a]).data.toList=[a] from rfl,hx] at e;exact e⟩
 |[a,c],_,_ =>
  by_cases ha:a=45
  ·subst ha;obtain⟨x,b,hx⟩:=res (-1) [c];exact⟨x,b,fun w=>by have e:=l1Dec_minus ⟨#[45,c]⟩ ⟨#[c]⟩ w (extract_mk_tail 45 [c]) (by simp [ByteArray.size]) (by simp [ByteArray.size]) (by simp [ByteArray.size]) rfl;rw [show (ByteArray.mk #[c]).data.toList=[c] from rfl,hx] at e;exact e⟩
  ·have hx':=byte_ne (m:=45) (by omega) ha;obtain⟨x,b,hx⟩:=res 1 [a,c];exact⟨x,b,fun w=>by have e:=l1Dec_two ⟨#[a,c]⟩ w (by simp [ByteArray.size]) (by simp [ByteArray.size]) (by show ((a.toNat:Int)==45)=false;rw [beq_eq_false_iff_ne];omega);rw [show (ByteArray.mk #[a,c]).data.toList=[a,c] from rfl,hx] at e;exact e⟩
 |[a,c,d],_,_ =>
  by_cases ha:a=45
  ·subst ha;obtain⟨x,b,hx⟩:=res (-1) [c,d];exact⟨x,b,fun w=>by have e:=l1Dec_minus ⟨#[45,c,d]⟩ ⟨#[c,d]⟩ w (extract_mk_tail 45 [c,d]) (by simp [ByteArray.size]) (by simp [ByteArray.size]) (by simp [ByteArray.size]) rfl;rw [show (ByteArray.mk #[c,d]).data.toList=[c,d] from rfl,hx] at e;exact e⟩
  ·have hx':=byte_ne (m:=45) (by omega) ha;exact⟨0,false,fun w=>l1Dec_long ⟨#[a,c,d]⟩ w (by simp [ByteArray.size]) (by simp [ByteArray.size]) (by show ((a.toNat:Int)==45)=false;rw [beq_eq_false_iff_ne];omega)⟩
def readV (p:Bool) (k x:Int):Value:=if p=true then .tuple #[.agg #[.int .i64 k,.int .i64 x],.bool true] else .tuple #[.agg #[.int .i64 0,.int .i64 0],.bool false]
theorem readV_true (k x:Int):readV true k x=.tuple #[.agg #[.int .i64 k,.int .i64 x],.bool true]:=rfl
theorem readV_false (k x:Int):readV false k x=.tuple #[.agg #[.int .i64 0,.int .i64 0],.bool false]:=rfl
attribute [local go_sem ↓] Go.wp_at_zero Go.wp_at_succ
theorem specText_num (n:Int) (w:World) (h:okB 1 n=true) :
  Calls Tryz.prog 220 #[.agg #[.int .i64 1,.int .i64 n]] w fun e w'=>e=.returned (.string ⟨(txt 1 n).toArray⟩)∧Below w.heap.size w w':=by
 have hbd:=okB_bd h;have hl:=itoa_len n hbd.1 hbd.2;have hl':¬9223372036854775807<1+(Lib.itoa n).length:=by omega
 have HF:Hid ((⟨#[110]⟩:ByteArray)++⟨(Lib.itoa n).toArray⟩=⟨(txt 1 n).toArray⟩):=by
  show (⟨#[110]⟩:ByteArray)++⟨(Lib.itoa n).toArray⟩=⟨(txt 1 n).toArray⟩;rw [txt_num h];exact cat [110] (Lib.itoa n)
 go_enter Tryz.func220,Tryz.ntmps220
 go_wp2_with fail
 refine(specOk_any _ _ _).mono ?_;rintro e w1 ⟨rfl,hb1⟩;obtain⟨hc1,hf1⟩:=bcell hb1;have hz1:=hb1.size;simp at hz1;have x0:w1.cell? ⟨w.heap.size,0,none⟩=some (.int .i64 1):=by rw [hc1 _ _ (by simp)];simp [go_sem]
 have x1:w1.cell? ⟨w.heap.size,1,none⟩=some (.int .i64 n):=by rw [hc1 _ _ (by simp)];simp [go_sem]
 have hB1:Below w.heap.size w w1:=((Below.refl _ _).alloc (Nat.le_refl _) _).trans (hb1.mono (by simp));have hlt:w.heap.size<w1.heap.size:=by omega
 have hlt1:w.heap.size<w1.heap.size+1:=by omega
 clear hc1 hf1 hb1
 go_wp2_with fail
 go_region_with (go_at_call 221;refine(dec_any n _ hbd.1 hbd.2).mono ?_;rintro e w2 ⟨rfl,hb2⟩;have h9:=hb2.size;simp at h9;have hlt2:w.heap.size<w2.heap.size:=(by omega);have y0:w2.cell? ⟨w.heap.size,0,none⟩=some (.int .i64 1):=((hb2.cell (p:=⟨w.heap.size,0,none⟩) (by(try simp)<;>omega)).trans (by simp [go_sem, *]));have y1:w2.cell? ⟨w.heap.size,1,none⟩=some (.int .i64 n):=((hb2.cell (p:=⟨w.heap.size,1,none⟩) (by(try simp)<;>omega)).trans (by simp [go_sem, *]));obtain⟨hc2,hf2⟩:=bcell hb2)
 all_goals go_wp2_with fail
 all_goals go_ret
 all_goals refine⟨congrArg (fun x=>Ending.returned (.string x)) HF.out,?_⟩
 all_goals first|exact(hB1.drew.trans (hb2.mono (by(try simp)<;>omega))).alloc (by have:=hb2.size;(try simp at this);omega) _|exact((hB1.alloc (by omega) _).drew).trans (hb2.mono (by(try simp)<;>omega))
theorem specText_name (n:Int) (w:World) (h:okB 2 n=true) :
  Calls Tryz.prog 220 #[.agg #[.int .i64 2,.int .i64 n]] w fun e w'=>e=.returned (.string ⟨(txt 2 n).toArray⟩)∧Below w.heap.size w w':=by
 have hbd:=okB_bd h;have hl:=itoa_len n hbd.1 hbd.2;have hl':¬9223372036854775807<1+(Lib.itoa n).length:=by omega
 have HF:Hid ((⟨#[97]⟩:ByteArray)++⟨(Lib.itoa n).toArray⟩=⟨(txt 2 n).toArray⟩):=by
  show (⟨#[97]⟩:ByteArray)++⟨(Lib.itoa n).toArray⟩=⟨(txt 2 n).toArray⟩;rw [txt_name h];exact cat [97] (Lib.itoa n)
 go_enter Tryz.func220,Tryz.ntmps220
 go_wp2_with fail
 refine(specOk_any _ _ _).mono ?_;rintro e w1 ⟨rfl,hb1⟩;obtain⟨hc1,hf1⟩:=bcell hb1;have hz1:=hb1.size;simp at hz1;have x0:w1.cell? ⟨w.heap.size,0,none⟩=some (.int .i64 2):=by rw [hc1 _ _ (by simp)];simp [go_sem]
 have x1:w1.cell? ⟨w.heap.size,1,none⟩=some (.int .i64 n):=by rw [hc1 _ _ (by simp)];simp [go_sem]
 have hB1:Below w.heap.size w w1:=((Below.refl _ _).alloc (Nat.le_refl _) _).trans (hb1.mono (by simp));have hlt:w.heap.size<w1.heap.size:=by omega
 have hlt1:w.heap.size<w1.heap.size+1:=by omega
 clear hc1 hf1 hb1
 go_wp2_with fail
 go_region_with (go_at_call 221;refine(dec_any n _ hbd.1 hbd.2).mono ?_;rintro e w2 ⟨rfl,hb2⟩;have h9:=hb2.size;simp at h9;have hlt2:w.heap.size<w2.heap.size:=(by omega);have y0:w2.cell? ⟨w.heap.size,0,none⟩=some (.int .i64 2):=((hb2.cell (p:=⟨w.heap.size,0,none⟩) (by(try simp)<;>omega)).trans (by simp [go_sem, *]));have y1:w2.cell? ⟨w.heap.size,1,none⟩=some (.int .i64 n):=((hb2.cell (p:=⟨w.heap.size,1,none⟩) (by(try simp)<;>omega)).trans (by simp [go_sem, *]));obtain⟨hc2,hf2⟩:=bcell hb2)
 all_goals go_wp2_with fail
 all_goals go_ret
 all_goals refine⟨congrArg (fun x=>Ending.returned (.string x)) HF.out,?_⟩
 all_goals first|exact(hB1.drew.trans (hb2.mono (by(try simp)<;>omega))).alloc (by have:=hb2.size;(try simp at this);omega) _|exact((hB1.alloc (by omega) _).drew).trans (hb2.mono (by(try simp)<;>omega))
theorem specText_run (n:Int) (w:World) (h:okB 3 n=true) :
  Calls Tryz.prog 220 #[.agg #[.int .i64 3,.int .i64 n]] w fun e w'=>e=.returned (.string ⟨(txt 3 n).toArray⟩)∧Below w.heap.size w w':=by
 have hbd:=okB_bd h;have hl:=itoa_len n hbd.1 hbd.2;have hl':¬9223372036854775807<1+(Lib.itoa n).length:=by omega
 have HF:Hid ((⟨#[114]⟩:ByteArray)++⟨(Lib.itoa n).toArray⟩=⟨(txt 3 n).toArray⟩):=by
  show (⟨#[114]⟩:ByteArray)++⟨(Lib.itoa n).toArray⟩=⟨(txt 3 n).toArray⟩;rw [txt_run h];exact cat [114] (Lib.itoa n)
 go_enter Tryz.func220,Tryz.ntmps220
 go_wp2_with fail
 refine(specOk_any _ _ _).mono ?_;rintro e w1 ⟨rfl,hb1⟩;obtain⟨hc1,hf1⟩:=bcell hb1;have hz1:=hb1.size;simp at hz1;have x0:w1.cell? ⟨w.heap.size,0,none⟩=some (.int .i64 3):=by rw [hc1 _ _ (by simp)];simp [go_sem]
 have x1:w1.cell? ⟨w.heap.size,1,none⟩=some (.int .i64 n):=by rw [hc1 _ _ (by simp)];simp [go_sem]
 have hB1:Below w.heap.size w w1:=((Below.refl _ _).alloc (Nat.le_refl _) _).trans (hb1.mono (by simp));have hlt:w.heap.size<w1.heap.size:=by omega
 have hlt1:w.heap.size<w1.heap.size+1:=by omega
 clear hc1 hf1 hb1
 go_wp2_with fail
 go_region_with (go_at_call 221;refine(dec_any n _ hbd.1 hbd.2).mono ?_;rintro e w2 ⟨rfl,hb2⟩;have h9:=hb2.size;simp at h9;have hlt2:w.heap.size<w2.heap.size:=(by omega);have y0:w2.cell? ⟨w.heap.size,0,none⟩=some (.int .i64 3):=((hb2.cell (p:=⟨w.heap.size,0,none⟩) (by(try simp)<;>omega)).trans (by simp [go_sem, *]));have y1:w2.cell? ⟨w.heap.size,1,none⟩=some (.int .i64 n):=((hb2.cell (p:=⟨w.heap.size,1,none⟩) (by(try simp)<;>omega)).trans (by simp [go_sem, *]));obtain⟨hc2,hf2⟩:=bcell hb2)
 all_goals go_wp2_with fail
 all_goals go_ret
 all_goals refine⟨congrArg (fun x=>Ending.returned (.string x)) HF.out,?_⟩
 all_goals first|exact(hB1.drew.trans (hb2.mono (by(try simp)<;>omega))).alloc (by have:=hb2.size;(try simp at this);omega) _|exact((hB1.alloc (by omega) _).drew).trans (hb2.mono (by(try simp)<;>omega))
theorem specText_none (n:Int) (w:World) (h:okB 0 n=true) :
  Calls Tryz.prog 220 #[.agg #[.int .i64 0,.int .i64 n]] w fun e w'=>e=.returned (.string ⟨(txt 0 n).toArray⟩)∧Below w.heap.size w w':=by
 rw [txt_none h]
 go_enter Tryz.func220,Tryz.ntmps220
 go_wp2_with fail
 refine(specOk_any _ _ _).mono ?_;rintro e w1 ⟨rfl,hb1⟩;obtain⟨hc1,hf1⟩:=bcell hb1
 go_wp2_with fail
 go_ret
 exact⟨rfl,((Below.refl _ _).alloc (Nat.le_refl _) _).trans (hb1.mono (by simp))⟩
theorem specText_bad (k n:Int) (w:World) (h:okB k n=false) :
  Calls Tryz.prog 220 #[.agg #[.int .i64 k,.int .i64 n]] w fun e w'=>e=.returned (.string ⟨(txt k n).toArray⟩)∧Below w.heap.size w w':=by
 rw [txt_bad h]
 go_enter Tryz.func220,Tryz.ntmps220
 go_wp2_with fail
 refine(specOk_any _ _ _).mono ?_;rintro e w1 ⟨rfl,hb1⟩
 go_wp2_with fail
 go_ret
 exact⟨rfl,((Below.refl _ _).alloc (Nat.le_refl _) _).trans (hb1.mono (by simp))⟩
theorem specText_any (k n:Int) (w:World) :
  Calls Tryz.prog 220 #[.agg #[.int .i64 k,.int .i64 n]] w fun e w'=>e=.returned (.string ⟨(txt k n).toArray⟩)∧Below w.heap.size w w':=by
 cases h:okB k n with
 |false=>exact specText_bad k n w h
 |true =>
  rcases okB_kinds h with rfl|rfl|rfl|rfl
  ·exact specText_none n w h
  ·exact specText_num n w h
  ·exact specText_name n w h
  ·exact specText_run n w h
end Go.Proofs.YtgmkmeodimmdoaaGreatDoor.Eld
