import Derived.Test.YtgmkmeodimmdoaaGreatDoorRows
import Derived.WalkKit
import Derived.ProofKit
import Derived.OpenShut
import Derived.ShutString
import Derived.ChangeOld
import Derived.Below
import Derived.Outline
import Derived.WalkSpells
import Derived.WalkLawsBesides
import Derived.Deep.QuietTactic
import Derived.BigQuiet
import Derived.Lib.SmallJoins
import Derived.Deep.Draws
import Derived.Deep.DeepCutAuto
import Derived.Deep.RegionHeld3
import Derived.Deep.DrawnRows
set_option maxRecDepth 100000
set_option maxHeartbeats 1000000
namespace Go.Proofs.YtgmkmeodimmdoaaGreatDoor.Eld
open Go.ChangeShapes Go.WideShapes Go.ChangeAt Go.RowKit Go.Joins
theorem upon_method {P:Program} {o:Oper} {a:Act} {next:Act→World→Prop} {Q:Exit→Act→World→Prop} {m:Sem (FuncId×Value)} {w:World} {f:FuncId×Value→World→Result Next}
  (g:FuncId) (rv:Value) (h:Sem.run P m w=.ok (g,rv) w) (hk:Oper.upon P o a next Q (f (g,rv) w)):Oper.upon P o a next Q ((Sem.run P m w).andThen f):=by
 rw [h];exact hk
theorem bcell {W w1:World} (hb:Below W.heap.size W w1):(∀b o,b<W.heap.size→w1.cell? ⟨b,o,none⟩=W.cell? ⟨b,o,none⟩)∧(∀b o,b<W.heap.size→w1.frozen? ⟨b,o,none⟩=W.frozen? ⟨b,o,none⟩) :=
 ⟨fun b o h=>hb.cell (p:=⟨b,o,none⟩) h,fun b o h=>hb.frozen (p:=⟨b,o,none⟩) h⟩
def okB (k n:Int):Bool :=
 if k=0 then n==0 else if k=1 then decide (-99≤n)&&decide (n≤99) else if k=2 then decide (0≤n)&&decide (n≤9) else if k=3 then decide (1≤n)&&decide (n≤6) else false
theorem l6In_any (n lo hi:Int) (w:World) :
  Calls Tryz.prog 40 #[.int .i64 n,.int .i64 lo,.int .i64 hi] w fun e w'=>e=.returned (.bool (decide (lo≤n)&&decide (n≤hi)))∧w'=w:=by
 by_cases h1:lo≤n
 ·by_cases h2:n≤hi
  ·go_enter Tryz.func40,Tryz.ntmps40
   go_wp2
   go_ret
   exact⟨by simp [h1,h2],rfl⟩
  ·go_enter Tryz.func40,Tryz.ntmps40
   go_wp2
   go_ret
   exact⟨by simp;omega,rfl⟩
 ·go_enter Tryz.func40,Tryz.ntmps40
  go_wp2
  go_ret
  exact⟨by simp;omega,rfl⟩
theorem specOk_any (k n:Int) (w:World) :
  Calls Tryz.prog 22 #[.agg #[.int .i64 k,.int .i64 n]] w fun e w'=>e=.returned (.bool (okB k n))∧Below w.heap.size w w':=by
 by_cases h0:k=0
 ·subst h0
  go_enter Tryz.func22,Tryz.ntmps22
  go_wp2_with fail
  go_ret
  exact⟨by simp [okB],(Below.refl _ _).alloc (Nat.le_refl _) _⟩
 ·by_cases h1:k=1
  ·subst h1
   go_enter Tryz.func22,Tryz.ntmps22
   go_wp2_with (go_at_call 40;refine(l6In_any _ _ _ _).mono ?_;rintro e w' ⟨rfl,rfl⟩)
   go_ret
   exact⟨by simp [okB],(Below.refl _ _).alloc (Nat.le_refl _) _⟩
  ·by_cases h2:k=2
   ·subst h2
    go_enter Tryz.func22,Tryz.ntmps22
    go_wp2_with (go_at_call 40;refine(l6In_any _ _ _ _).mono ?_;rintro e w' ⟨rfl,rfl⟩)
    go_ret
    exact⟨by simp [okB],(Below.refl _ _).alloc (Nat.le_refl _) _⟩
   ·by_cases h3:k=3
    ·subst h3
     go_enter Tryz.func22,Tryz.ntmps22
     go_wp2_with (go_at_call 40;refine(l6In_any _ _ _ _).mono ?_;rintro e w' ⟨rfl,rfl⟩)
     go_ret
     exact⟨by simp [okB],(Below.refl _ _).alloc (Nat.le_refl _) _⟩
    ·go_enter Tryz.func22,Tryz.ntmps22
     go_wp2_with fail
     go_ret
     exact⟨by simp [okB,h0,h1,h2,h3],(Below.refl _ _).alloc (Nat.le_refl _) _⟩
theorem inNum_any (n:Int) (w:World) :
  Calls Tryz.prog 269 #[.int .i64 n] w fun e w'=>e=.returned (.bool (decide (-99≤n)&&decide (n≤99)))∧w'=w:=by
 by_cases h1 : -99≤n
 ·by_cases h2:n≤99
  ·go_enter Tryz.func269,Tryz.ntmps269
   go_wp2
   go_ret
   exact⟨by simp [h1,h2],rfl⟩
  ·go_enter Tryz.func269,Tryz.ntmps269
   go_wp2
   go_ret
   exact⟨by simp;omega,rfl⟩
 ·go_enter Tryz.func269,Tryz.ntmps269
  go_wp2
  go_ret
  exact⟨by simp;omega,rfl⟩
theorem inName_any (n:Int) (w:World) :
  Calls Tryz.prog 271 #[.int .i64 n] w fun e w'=>e=.returned (.bool (decide (0≤n)&&decide (n≤9)))∧w'=w:=by
 by_cases h1:0≤n
 ·by_cases h2:n≤9
  ·go_enter Tryz.func271,Tryz.ntmps271
   go_wp2
   go_ret
   exact⟨by simp [h1,h2],rfl⟩
  ·go_enter Tryz.func271,Tryz.ntmps271
   go_wp2
   go_ret
   exact⟨by simp;omega,rfl⟩
 ·go_enter Tryz.func271,Tryz.ntmps271
  go_wp2
  go_ret
  exact⟨by simp;omega,rfl⟩
theorem inRun_any (n:Int) (w:World) :
  Calls Tryz.prog 170 #[.int .i64 n] w fun e w'=>e=.returned (.bool (decide (1≤n)&&decide (n≤6)))∧w'=w:=by
 by_cases h1:1≤n
 ·by_cases h2:n≤6
  ·go_enter Tryz.func170,Tryz.ntmps170
   go_wp2
   go_ret
   exact⟨by simp [h1,h2],rfl⟩
  ·go_enter Tryz.func170,Tryz.ntmps170
   go_wp2
   go_ret
   exact⟨by simp;omega,rfl⟩
 ·go_enter Tryz.func170,Tryz.ntmps170
  go_wp2
  go_ret
  exact⟨by simp;omega,rfl⟩
theorem okB_zero (n:Int):okB 0 n=(n==0):=rfl
theorem okB_one (n:Int):okB 1 n=(decide (-99≤n)&&decide (n≤99)):=rfl
theorem okB_two (n:Int):okB 2 n=(decide (0≤n)&&decide (n≤9)):=rfl
theorem okB_three (n:Int):okB 3 n=(decide (1≤n)&&decide (n≤6)):=rfl
theorem okB_else (k n:Int) (h0:k≠0) (h1:k≠1) (h2:k≠2) (h3:k≠3):okB k n=false:=by simp [okB,h0,h1,h2,h3]
def thingV (k n:Int):Value :=
 if okB k n=true then (if k=1 then .iface 126 (.int .i64 n) else if k=2 then .iface 127 (.int .i64 n) else if k=3 then .iface 128 (.int .i64 n) else .nilIface) else .nilIface
theorem thing_num (n:Int) (w:World) :
  Calls Tryz.prog 78 #[.agg #[.int .i64 1,.int .i64 n]] w fun e w'=>e=.returned (.tuple #[thingV 1 n,.bool (okB 1 n)])∧Below w.heap.size w w':=by
 by_cases h : -99≤n∧n≤99
 ·obtain⟨h1,h2⟩:=h;have hok:Hid (okB 1 n=true):=by show okB 1 n=true;simp [okB,h1,h2]
  go_enter Tryz.func78,Tryz.ntmps78
  go_wp2_with fail
  refine upon_method 269 (.int .i64 n) (by kernel_rfl) ?_
  go_wp2_with (go_at_call 269;refine(inNum_any _ _).mono ?_;rintro e w' ⟨rfl,rfl⟩)
  go_ret2
  exact⟨by rw [hok.out,thingV,if_pos hok.out];rfl,(Below.refl _ _).alloc (Nat.le_refl _) _⟩
 ·have hno:Hid (okB 1 n=false):=by show okB 1 n=false;simp [okB];omega
  have hd:(decide (-99≤n)&&decide (n≤99))=false:=by simp;omega
  go_enter Tryz.func78,Tryz.ntmps78
  go_wp2_with fail
  refine upon_method 269 (.int .i64 n) (by kernel_rfl) ?_
  go_wp2_with (go_at_call 269;refine(inNum_any _ _).mono ?_;rintro e w' ⟨rfl,rfl⟩)
  go_ret2
  exact⟨by rw [hno.out,thingV,if_neg (by rw [hno.out];decide)];rfl,(Below.refl _ _).alloc (Nat.le_refl _) _⟩
theorem thing_name (n:Int) (w:World) :
  Calls Tryz.prog 78 #[.agg #[.int .i64 2,.int .i64 n]] w fun e w'=>e=.returned (.tuple #[thingV 2 n,.bool (okB 2 n)])∧Below w.heap.size w w':=by
 by_cases h:0≤n∧n≤9
 ·obtain⟨h1,h2⟩:=h;have hok:Hid (okB 2 n=true):=by show okB 2 n=true;simp [okB,h1,h2]
  go_enter Tryz.func78,Tryz.ntmps78
  go_wp2_with fail
  refine upon_method 271 (.int .i64 n) (by kernel_rfl) ?_
  go_wp2_with (go_at_call 271;refine(inName_any _ _).mono ?_;rintro e w' ⟨rfl,rfl⟩)
  go_ret2
  exact⟨by rw [hok.out,thingV,if_pos hok.out];rfl,(Below.refl _ _).alloc (Nat.le_refl _) _⟩
 ·have hno:Hid (okB 2 n=false):=by show okB 2 n=false;simp [okB];omega
  have hd:(decide (0≤n)&&decide (n≤9))=false:=by simp;omega
  go_enter Tryz.func78,Tryz.ntmps78
  go_wp2_with fail
  refine upon_method 271 (.int .i64 n) (by kernel_rfl) ?_
  go_wp2_with (go_at_call 271;refine(inName_any _ _).mono ?_;rintro e w' ⟨rfl,rfl⟩)
  go_ret2
  exact⟨by rw [hno.out,thingV,if_neg (by rw [hno.out];decide)];rfl,(Below.refl _ _).alloc (Nat.le_refl _) _⟩
theorem thing_run (n:Int) (w:World) :
  Calls Tryz.prog 78 #[.agg #[.int .i64 3,.int .i64 n]] w fun e w'=>e=.returned (.tuple #[thingV 3 n,.bool (okB 3 n)])∧Below w.heap.size w w':=by
 by_cases h:1≤n∧n≤6
 ·obtain⟨h1,h2⟩:=h;have hok:Hid (okB 3 n=true):=by show okB 3 n=true;simp [okB,h1,h2]
  go_enter Tryz.func78,Tryz.ntmps78
  go_wp2_with fail
  refine upon_method 170 (.int .i64 n) (by kernel_rfl) ?_
  go_wp2_with (go_at_call 170;refine(inRun_any _ _).mono ?_;rintro e w' ⟨rfl,rfl⟩)
  go_ret2
  exact⟨by rw [hok.out,thingV,if_pos hok.out];rfl,(Below.refl _ _).alloc (Nat.le_refl _) _⟩
 ·have hno:Hid (okB 3 n=false):=by show okB 3 n=false;simp [okB];omega
  have hd:(decide (1≤n)&&decide (n≤6))=false:=by simp;omega
  go_enter Tryz.func78,Tryz.ntmps78
  go_wp2_with fail
  refine upon_method 170 (.int .i64 n) (by kernel_rfl) ?_
  go_wp2_with (go_at_call 170;refine(inRun_any _ _).mono ?_;rintro e w' ⟨rfl,rfl⟩)
  go_ret2
  exact⟨by rw [hno.out,thingV,if_neg (by rw [hno.out];decide)];rfl,(Below.refl _ _).alloc (Nat.le_refl _) _⟩
theorem thing_nil (n:Int) (w:World) :
  Calls Tryz.prog 78 #[.agg #[.int .i64 0,.int .i64 n]] w fun e w'=>e=.returned (.tuple #[thingV 0 n,.bool (okB 0 n)])∧Below w.heap.size w w':=by
 have hv:Hid (thingV 0 n=.nilIface):=by show thingV 0 n=.nilIface;simp [thingV]
 go_enter Tryz.func78,Tryz.ntmps78
 go_wp2_with fail
 go_quiet (fail)
 go_wp2_with fail
 go_ret2
 exact⟨by rw [hv.out];rfl,below_drewN ((Below.refl _ _).alloc (Nat.le_refl _) _) _⟩
theorem thing_else (k n:Int) (w:World) (h0:k≠0) (h1:k≠1) (h2:k≠2) (h3:k≠3) :
  Calls Tryz.prog 78 #[.agg #[.int .i64 k,.int .i64 n]] w fun e w'=>e=.returned (.tuple #[thingV k n,.bool (okB k n)])∧Below w.heap.size w w':=by
 have hok:Hid (okB k n=false):=okB_else k n h0 h1 h2 h3;have hv:Hid (thingV k n=.nilIface):=by show thingV k n=.nilIface;rw [thingV,if_neg (by rw [hok.out];decide)]
 go_enter Tryz.func78,Tryz.ntmps78
 go_wp2_with fail
 go_ret2
 exact⟨by rw [hv.out,hok.out];rfl,(Below.refl _ _).alloc (Nat.le_refl _) _⟩
theorem thing_any (k n:Int) (w:World) :
  Calls Tryz.prog 78 #[.agg #[.int .i64 k,.int .i64 n]] w fun e w'=>e=.returned (.tuple #[thingV k n,.bool (okB k n)])∧Below w.heap.size w w':=by
 by_cases h0:k=0
 ·subst h0;exact thing_nil n w
 by_cases h1:k=1
 ·subst h1;exact thing_num n w
 by_cases h2:k=2
 ·subst h2;exact thing_name n w
 by_cases h3:k=3
 ·subst h3;exact thing_run n w
 exact thing_else k n w h0 h1 h2 h3
theorem implOk_any (k n:Int) (w:World) :
  Calls Tryz.prog 46 #[.agg #[.int .i64 k,.int .i64 n]] w fun e w'=>e=.returned (.bool (okB k n))∧Below w.heap.size w w':=by
 go_enter Tryz.func46,Tryz.ntmps46
 go_wp2_with (go_at_call 78;refine(thing_any _ _ _).mono ?_;rintro e w1 ⟨rfl,hb⟩)
 go_ret
 exact⟨rfl,((Below.refl _ _).alloc (Nat.le_refl _) _).trans (hb.mono (by simp))⟩
structure But (R:Nat) (w w':World):Prop where
 os:w'.os=w.os
 tape:w'.tape=w.tape
 output:w'.output=w.output
 size:w.heap.size≤w'.heap.size
 block:∀k,k<w.heap.size→k≠R→w'.heap[k]?=w.heap[k]?
theorem But.refl (R:Nat) (w:World):But R w w:=⟨rfl,rfl,rfl,Nat.le_refl _,fun _ _ _=>rfl⟩
theorem But.trans {R:Nat} {a b c:World} (h:But R a b) (k:But R b c):But R a c :=
 ⟨k.os.trans h.os,k.tape.trans h.tape,k.output.trans h.output,Nat.le_trans h.size k.size,fun i hi hR=>(k.block i (Nat.lt_of_lt_of_le hi h.size) hR).trans (h.block i hi hR)⟩
theorem But.of_below {R:Nat} {a b:World} (h:Below a.heap.size a b):But R a b:=⟨h.os,h.tape,h.output,h.size,fun k hk _=>h.block k hk⟩
theorem But.setCell {R:Nat} {a b:World} (h:But R a b) {p:Addr} (hp:p.block=R) (u:Value):But R a (b.setCell p u) :=
 h.trans ⟨rfl,rfl,rfl,by simp [World.setCell],fun k _ hk=>Below.heap_setCell _ _ _ _ (by omega)⟩
theorem But.below {R B:Nat} {a b:World} (h:But R a b) (hR:B≤R) (hB:B≤a.heap.size):Below B a b:=⟨h.os,h.tape,h.output,h.size,fun k hk=>h.block k (by omega) (by omega)⟩
theorem But.cell {R:Nat} {a b:World} (h:But R a b) {p:Addr} (hp:p.block<a.heap.size) (hR:p.block≠R):b.cell? p=a.cell? p:=World.cell?_of_block (w:=a) (h.block p.block hp hR)
theorem But.frozen {R:Nat} {a b:World} (h:But R a b) {p:Addr} (hp:p.block<a.heap.size) (hR:p.block≠R):b.frozen? p=a.frozen? p:=World.frozen?_of_block (w:=a) (h.block p.block hp hR)
attribute [local go_sem ↓] Go.wp_at_zero Go.wp_at_succ
theorem xor_i64_nat (a b:Nat) (ha:a<4611686018427387904) (hb:b<4611686018427387904):bits .xor .i64 (a:Int) (b:Int)=((a ^^^ b:Nat):Int):=by
 have hx:a ^^^ b<2 ^ 62:=Nat.xor_lt_two_pow (by omega) (by omega);have h1:(BitVec.ofInt 64 (a:Int)).toNat=a:=by
  rw [BitVec.ofInt_natCast,BitVec.toNat_ofNat];exact Nat.mod_eq_of_lt (by omega)
 have h2:(BitVec.ofInt 64 (b:Int)).toNat=b:=by
  rw [BitVec.ofInt_natCast,BitVec.toNat_ofNat];exact Nat.mod_eq_of_lt (by omega)
 show IntKind.i64.wrap ((BitVec.ofInt 64 (a:Int) ^^^ BitVec.ofInt 64 (b:Int)).toNat:Int)=_;rw [BitVec.toNat_xor,h1,h2];simp [IntKind.wrap,IntKind.bits,IntKind.signed];omega
theorem xor_i64_nonneg (a b:Int) (ha:0≤a) (ha':a<4611686018427387904) (hb:0≤b) (hb':b<4611686018427387904):0≤bits .xor .i64 a b:=by
 obtain⟨x,rfl⟩:=Int.eq_ofNat_of_zero_le ha;obtain⟨y,rfl⟩:=Int.eq_ofNat_of_zero_le hb;rw [xor_i64_nat x y (by omega) (by omega)];omega
def Bys (R:Nat) (a:Option Addr) (len:Nat) (w:World):Prop :=
 len=0∨∃b off,a=some ⟨b,off,none⟩∧b<R∧∃z:Nat→Int,(∀i,0≤z i∧z i≤255)∧∀i,i<len→w.cell? ⟨b,off+i,none⟩=some (.int .u8 (z i))
structure Rd (R:Nat) (p:Int) (w:World):Prop where
 lt:R<w.heap.size
 p0:0≤p
 row:∃a len cap,w.cell? ⟨R,0,none⟩=some (.slice a len cap)∧len≤2000∧Bys R a len w
 place:w.cell? ⟨R,1,none⟩=some (.int .i64 p)
 free:w.frozen? ⟨R,1,none⟩=false
theorem pick_far (R b off len cap:Nat) (p n:Int) (z:Nat→Int) (w:World) (h0:w.cell? ⟨R,0,none⟩=some (.slice (some ⟨b,off,none⟩) len cap)) (h1:w.cell? ⟨R,1,none⟩=some (.int .i64 p)) (hf:w.frozen? ⟨R,1,none⟩=false)
  (hbR:b≠R) (hp0:0≤p) (hp1:p≤1000000) (hl0:0<len) (hl1:len≤2000) (hz:∀i,i<len→w.cell? ⟨b,off+i,none⟩=some (.int .u8 (z i))) (hz0:∀i,0≤z i) (hz1:∀i,z i≤255) (hn1:1≤n) (hn2:n≤1000) (hge:(len:Int)≤p) :
  Calls Tryz.prog 37 #[.pointer (some ⟨R,0,none⟩),.int .i64 n] w fun e w'=>∃r q,e=.returned (.int .i64 r)∧0≤r∧r<n∧w'=(w.setCell ⟨R,1,none⟩ (.int .i64 (p+1))).drewN q:=by
 have hlz:((len:Int)==0)=false:=by simp;omega
 have hn':¬n<1:=by omega
 have a1:0≤p % (len:Int):=Int.emod_nonneg _ (by omega);have a2:p % (len:Int)<(len:Int):=Int.emod_lt_of_pos _ (by omega);have b1:0≤(p*7+3) % (len:Int):=Int.emod_nonneg _ (by omega);have b2:(p*7+3) % (len:Int)<(len:Int):=Int.emod_lt_of_pos _ (by omega);have c1:0≤p / (len:Int):=Int.ediv_nonneg hp0 (by omega);have c2:p / (len:Int)≤1000000:=Int.le_trans (Int.ediv_le_self _ hp0) hp1;obtain⟨x,hx⟩:∃x,z (p % (len:Int)).toNat=x:=⟨_,rfl⟩;obtain⟨y,hy⟩:∃y,z ((p*7+3) % (len:Int)).toNat=y:=⟨_,rfl⟩;have x0:0≤x:=hx ▸ hz0 _;have x1:x≤255:=hx ▸ hz1 _;have y0:0≤y:=hy ▸ hz0 _;have y1:y≤255:=hy ▸ hz1 _;have k1:w.cell? ⟨b,off+(p % (len:Int)).toNat,none⟩=some (.int .u8 x):=by rw [hz _ (by omega),hx]
 have k2:w.cell? ⟨b,off+((p*7+3) % (len:Int)).toNat,none⟩=some (.int .u8 y):=by rw [hz _ (by omega),hy]
 clear hx hy hz hz0 hz1
 go_enter Tryz.func37,Tryz.ntmps37
 go_wp2_with fail
 go_quiet (fail)
 have hX0:0≤x*131+y*1117+p*29+p / (len:Int)*53:=by omega
 have hX1:x*131+y*1117+p*29+p / (len:Int)*53≤100000000:=by omega
 generalize x*131+y*1117+p*29+p / (len:Int)*53=X at *;clear k1 k2 a1 a2 b1 b2 c1 c2;have hB0:=xor_i64_nonneg X (X / 64) hX0 (by omega) (by omega) (by omega)
 go_wp2_with fail
 go_ret
 exact⟨_,nq,rfl,Int.emod_nonneg _ (by omega),Int.emod_lt_of_pos _ (by omega),rfl⟩
theorem pick_near (R b off len cap:Nat) (p n:Int) (z:Nat→Int) (w:World) (h0:w.cell? ⟨R,0,none⟩=some (.slice (some ⟨b,off,none⟩) len cap)) (h1:w.cell? ⟨R,1,none⟩=some (.int .i64 p)) (hf:w.frozen? ⟨R,1,none⟩=false)
  (hbR:b≠R) (hp0:0≤p) (hp1:p≤1000000) (hl0:0<len) (hl1:len≤2000) (hz:∀i,i<len→w.cell? ⟨b,off+i,none⟩=some (.int .u8 (z i))) (hz0:∀i,0≤z i) (hz1:∀i,z i≤255) (hn1:1≤n) (hn2:n≤1000) (hge:p<(len:Int)) :
  Calls Tryz.prog 37 #[.pointer (some ⟨R,0,none⟩),.int .i64 n] w fun e w'=>∃r,e=.returned (.int .i64 r)∧0≤r∧r<n∧w'=w.setCell ⟨R,1,none⟩ (.int .i64 (p+1)):=by
 have hlz:((len:Int)==0)=false:=by simp;omega
 have hn':¬n<1:=by omega
 obtain⟨x,hx⟩:∃x,z p.toNat=x:=⟨_,rfl⟩;have x0:0≤x:=hx ▸ hz0 _;have x1:x≤255:=hx ▸ hz1 _;have k1:w.cell? ⟨b,off+p.toNat,none⟩=some (.int .u8 x):=by rw [hz _ (by omega),hx]
 clear hx hz hz0 hz1
 go_enter Tryz.func37,Tryz.ntmps37
 go_wp2_with fail
 go_ret
 exact⟨_,rfl,Int.emod_nonneg _ (by omega),Int.emod_lt_of_pos _ (by omega),rfl⟩
theorem pick_none (R cap:Nat) (a:Option Addr) (p n:Int) (w:World) (h0:w.cell? ⟨R,0,none⟩=some (.slice a 0 cap)) (h1:w.cell? ⟨R,1,none⟩=some (.int .i64 p)) (hf:w.frozen? ⟨R,1,none⟩=false)
  (hp0:0≤p) (hp1:p≤1000000) (hn1:1≤n) (hn2:n≤1000) :
  Calls Tryz.prog 37 #[.pointer (some ⟨R,0,none⟩),.int .i64 n] w fun e w'=>∃r,e=.returned (.int .i64 r)∧0≤r∧r<n∧w'=w.setCell ⟨R,1,none⟩ (.int .i64 (p+1)):=by
 have hn':¬n<1:=by omega
 go_enter Tryz.func37,Tryz.ntmps37
 go_wp2_with fail
 go_ret
 exact⟨0,rfl,by omega,by omega,rfl⟩
end Go.Proofs.YtgmkmeodimmdoaaGreatDoor.Eld
namespace Go.Proofs.YtgmkmeodimmdoaaGreatDoor.Eld
open Go.ChangeShapes Go.WideShapes Go.ChangeAt Go.RowKit Go.Joins
def Code0 (w:World) (a:Option Addr) (len cap:Nat):Prop:=len≤cap∧cap≤maxLen∧Bys w.heap.size a len w
theorem open_short (a:Option Addr) (len cap:Nat) (w:World) (hl:len≤2000) :
  Calls Tryz.prog 35 #[.slice a len cap] w fun e w'=>e=.returned (.pointer (some ⟨w.heap.size,0,none⟩))∧w'=w.alloc (.cells #[.slice a len cap,.int .i64 0] 73):=by
 have h:¬(2000:Int)<(len:Int):=by omega
 go_enter Tryz.func35,Tryz.ntmps35
 go_wp2_with fail
 go_ret
 exact⟨rfl,rfl⟩
theorem open_long (b off len cap:Nat) (w:World) (hl:2000<len) (hc:len≤cap) (hm:cap≤maxLen) :
  Calls Tryz.prog 35 #[.slice (some ⟨b,off,none⟩) len cap] w fun e w'=>e=.returned (.pointer (some ⟨w.heap.size,0,none⟩))∧w'=w.alloc (.cells #[.slice (some ⟨b,off,none⟩) 2000 cap,.int .i64 0] 73):=by
 unfold maxLen at hm;have h:(2000:Int)<(len:Int):=by omega
 have h2:(2000:Int)≤(cap:Int):=by omega
 go_enter Tryz.func35,Tryz.ntmps35
 go_wp2_with fail
 go_ret
 exact⟨rfl,rfl⟩
theorem code_of_row {W:World} {a:Option Addr} {len cap:Nat} {zs:List Int}
  (h:(a=none∧len=0∧cap=0∧zs=[])∨∃x,a=some x∧len≤cap∧cap≤maxLen∧zs.length=cap∧(∀i,i<zs.length→W.cell? (x.add i)=some (.int .u8 (zs.getD i 0)))∧∀n∈zs,(Lit.int .u8 n).wf=true):Code0 W a len cap:=by
 rcases h with⟨rfl,rfl,rfl,rfl⟩|⟨x,rfl,hl,hm,hz,hcell,hwz⟩
 ·exact⟨Nat.le_refl _,by unfold maxLen;omega,.inl rfl⟩
 ·refine⟨hl,hm,?_⟩;by_cases h0:len=0
  ·exact .inl h0
  ·obtain⟨b,off,spot⟩:=x;have hc:=hcell 0 (by omega);have hspot:spot=none:=by simpa [Addr.add] using World.cell?_spot hc
   subst hspot;have hlt:b<W.heap.size:=by simpa [Addr.add] using World.block_lt_of_cell? _ _ hc
   refine .inr ⟨b,off,rfl,hlt,fun i=>zs.getD i 0,fun i=>?_,fun i hi=>?_⟩
   ·by_cases hi:i<zs.length
    ·have hw:=hwz (zs.getD i 0) (by rw [List.getD_eq_getElem?_getD,List.getElem?_eq_getElem hi];exact List.getElem_mem hi);have:=bounds_u8 hw;exact this
    ·have:zs.getD i 0=0:=by rw [List.getD_eq_getElem?_getD,List.getElem?_eq_none (by omega)];rfl
     show 0≤zs.getD i 0∧zs.getD i 0≤255;rw [this];omega
   ·have:=hcell i (by omega);by_cases hi0:i=0
    ·subst hi0;simpa [Addr.add] using this
    ·simpa [Addr.add,hi0] using this
end Go.Proofs.YtgmkmeodimmdoaaGreatDoor.Eld
