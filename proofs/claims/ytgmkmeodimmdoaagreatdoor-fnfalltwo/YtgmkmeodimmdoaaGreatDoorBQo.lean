import Derived.Test.YtgmkmeodimmdoaaGreatDoorBQn
import Derived.Laws.EntriesVeiled
import Derived.Laws.Tables
set_option maxHeartbeats 4000000
set_option maxRecDepth 100000
namespace Go.Proofs.YtgmkmeodimmdoaaGreatDoor.Eld
open Go.ChangeShapes Go.WideShapes Go.ChangeAt Go.RowKit Go.Joins
def tabW (w:World):World :=
 (((((((((((((((w.alloc (.cells #[.string ⟨#[]⟩,.nilFunc,.nilFunc,.nilFunc,.nilFunc,.nilFunc,.nilFunc,.nilFunc,.nilFunc,.nilFunc,.nilFunc,.nilFunc,.nilFunc,.slice none 0 0] 182)).alloc (.cells #[.func (.func 185) #[] #[],.func (.func 186) #[] #[],.func (.func 187) #[] #[]] 178)).alloc (.cells #[.func (.func 188) #[] #[],.nilFunc,.nilFunc] 178)).alloc (.cells #[.func (.func 189) #[] #[],.func (.func 190) #[] #[],.func (.func 191) #[] #[]] 178)).alloc (.cells #[.func (.func 192) #[] #[],.nilFunc,.nilFunc] 178)).alloc (.cells #[.func (.func 193) #[] #[],.func (.func 194) #[] #[],.func (.func 195) #[] #[]] 178)).alloc (.cells #[.func (.func 196) #[] #[],.nilFunc,.nilFunc] 178)).alloc (.cells #[.func (.func 197) #[] #[],.func (.func 198) #[] #[],.func (.func 199) #[] #[]] 178)).alloc (.cells #[.func (.func 200) #[] #[],.nilFunc,.nilFunc] 178)).alloc (.cells #[.func (.func 201) #[] #[],.func (.func 190) #[] #[],.func (.func 191) #[] #[]] 178)).alloc (.cells #[.func (.func 202) #[] #[],.func (.func 198) #[] #[],.func (.func 199) #[] #[]] 178)).alloc (.cells #[.func (.func 203) #[] #[],.func (.func 198) #[] #[],.func (.func 199) #[] #[]] 178)).alloc (.cells #[.func (.func 204) #[] #[]] 200)).alloc (.cells #[.func (.func 205) #[] #[]] 200)).alloc (.cells #[.func (.func 204) #[] #[],.func (.func 205) #[] #[]] 200))
theorem heap_newJ {w:World} {o:Obj} {n:Nat} (h:n=w.heap.size):(w.alloc o).heap[n]?=some o:=h ▸ heap_alloc_new w o
theorem heap_old {w:World} {o:Obj} {n:Nat} (h:n<w.heap.size):(w.alloc o).heap[n]?=w.heap[n]?:=heap_alloc_old _ _ h
structure TabIs (w W:World):Prop where
 h0:W.heap[w.heap.size]?=some (.cells #[.string ⟨#[]⟩,.nilFunc,.nilFunc,.nilFunc,.nilFunc,.nilFunc,.nilFunc,.nilFunc,.nilFunc,.nilFunc,.nilFunc,.nilFunc,.nilFunc,.slice none 0 0] 182)
 h1:W.heap[w.heap.size+1]?=some (.cells #[.func (.func 185) #[] #[],.func (.func 186) #[] #[],.func (.func 187) #[] #[]] 178)
 h2:W.heap[w.heap.size+1+1]?=some (.cells #[.func (.func 188) #[] #[],.nilFunc,.nilFunc] 178)
 h3:W.heap[w.heap.size+1+1+1]?=some (.cells #[.func (.func 189) #[] #[],.func (.func 190) #[] #[],.func (.func 191) #[] #[]] 178)
 h4:W.heap[w.heap.size+1+1+1+1]?=some (.cells #[.func (.func 192) #[] #[],.nilFunc,.nilFunc] 178)
 h5:W.heap[w.heap.size+1+1+1+1+1]?=some (.cells #[.func (.func 193) #[] #[],.func (.func 194) #[] #[],.func (.func 195) #[] #[]] 178)
 h6:W.heap[w.heap.size+1+1+1+1+1+1]?=some (.cells #[.func (.func 196) #[] #[],.nilFunc,.nilFunc] 178)
 h7:W.heap[w.heap.size+1+1+1+1+1+1+1]?=some (.cells #[.func (.func 197) #[] #[],.func (.func 198) #[] #[],.func (.func 199) #[] #[]] 178)
 h8:W.heap[w.heap.size+1+1+1+1+1+1+1+1]?=some (.cells #[.func (.func 200) #[] #[],.nilFunc,.nilFunc] 178)
 h9:W.heap[w.heap.size+1+1+1+1+1+1+1+1+1]?=some (.cells #[.func (.func 201) #[] #[],.func (.func 190) #[] #[],.func (.func 191) #[] #[]] 178)
 h10:W.heap[w.heap.size+1+1+1+1+1+1+1+1+1+1]?=some (.cells #[.func (.func 202) #[] #[],.func (.func 198) #[] #[],.func (.func 199) #[] #[]] 178)
 h11:W.heap[w.heap.size+1+1+1+1+1+1+1+1+1+1+1]?=some (.cells #[.func (.func 203) #[] #[],.func (.func 198) #[] #[],.func (.func 199) #[] #[]] 178)
 h12:W.heap[w.heap.size+1+1+1+1+1+1+1+1+1+1+1+1]?=some (.cells #[.func (.func 204) #[] #[]] 200)
 h13:W.heap[w.heap.size+1+1+1+1+1+1+1+1+1+1+1+1+1]?=some (.cells #[.func (.func 205) #[] #[]] 200)
 h14:W.heap[w.heap.size+1+1+1+1+1+1+1+1+1+1+1+1+1+1]?=some (.cells #[.func (.func 204) #[] #[],.func (.func 205) #[] #[]] 200)
 size:W.heap.size=w.heap.size+1+1+1+1+1+1+1+1+1+1+1+1+1+1+1
 below:Below w.heap.size w W
theorem tabW_is (w:World):TabIs w (tabW w) where
 h0:=(heap_old (by simp<;>omega)).trans ((heap_old (by simp<;>omega)).trans ((heap_old (by simp<;>omega)).trans ((heap_old (by simp<;>omega)).trans ((heap_old (by simp<;>omega)).trans ((heap_old (by simp<;>omega)).trans ((heap_old (by simp<;>omega)).trans ((heap_old (by simp<;>omega)).trans ((heap_old (by simp<;>omega)).trans ((heap_old (by simp<;>omega)).trans ((heap_old (by simp<;>omega)).trans ((heap_old (by simp<;>omega)).trans ((heap_old (by simp<;>omega)).trans ((heap_old (by simp<;>omega)).trans (heap_newJ (by simp)))))))))))))))
 h1:=(heap_old (by simp<;>omega)).trans ((heap_old (by simp<;>omega)).trans ((heap_old (by simp<;>omega)).trans ((heap_old (by simp<;>omega)).trans ((heap_old (by simp<;>omega)).trans ((heap_old (by simp<;>omega)).trans ((heap_old (by simp<;>omega)).trans ((heap_old (by simp<;>omega)).trans ((heap_old (by simp<;>omega)).trans ((heap_old (by simp<;>omega)).trans ((heap_old (by simp<;>omega)).trans ((heap_old (by simp<;>omega)).trans ((heap_old (by simp<;>omega)).trans (heap_newJ (by simp))))))))))))))
 h2:=(heap_old (by simp<;>omega)).trans ((heap_old (by simp<;>omega)).trans ((heap_old (by simp<;>omega)).trans ((heap_old (by simp<;>omega)).trans ((heap_old (by simp<;>omega)).trans ((heap_old (by simp<;>omega)).trans ((heap_old (by simp<;>omega)).trans ((heap_old (by simp<;>omega)).trans ((heap_old (by simp<;>omega)).trans ((heap_old (by simp<;>omega)).trans ((heap_old (by simp<;>omega)).trans ((heap_old (by simp<;>omega)).trans (heap_newJ (by simp)))))))))))))
 h3:=(heap_old (by simp<;>omega)).trans ((heap_old (by simp<;>omega)).trans ((heap_old (by simp<;>omega)).trans ((heap_old (by simp<;>omega)).trans ((heap_old (by simp<;>omega)).trans ((heap_old (by simp<;>omega)).trans ((heap_old (by simp<;>omega)).trans ((heap_old (by simp<;>omega)).trans ((heap_old (by simp<;>omega)).trans ((heap_old (by simp<;>omega)).trans ((heap_old (by simp<;>omega)).trans (heap_newJ (by simp))))))))))))
 h4:=(heap_old (by simp<;>omega)).trans ((heap_old (by simp<;>omega)).trans ((heap_old (by simp<;>omega)).trans ((heap_old (by simp<;>omega)).trans ((heap_old (by simp<;>omega)).trans ((heap_old (by simp<;>omega)).trans ((heap_old (by simp<;>omega)).trans ((heap_old (by simp<;>omega)).trans ((heap_old (by simp<;>omega)).trans ((heap_old (by simp<;>omega)).trans (heap_newJ (by simp)))))))))))
 h5:=(heap_old (by simp<;>omega)).trans ((heap_old (by simp<;>omega)).trans ((heap_old (by simp<;>omega)).trans ((heap_old (by simp<;>omega)).trans ((heap_old (by simp<;>omega)).trans ((heap_old (by simp<;>omega)).trans ((heap_old (by simp<;>omega)).trans ((heap_old (by simp<;>omega)).trans ((heap_old (by simp<;>omega)).trans (heap_newJ (by simp))))))))))
 h6:=(heap_old (by simp<;>omega)).trans ((heap_old (by simp<;>omega)).trans ((heap_old (by simp<;>omega)).trans ((heap_old (by simp<;>omega)).trans ((heap_old (by simp<;>omega)).trans ((heap_old (by simp<;>omega)).trans ((heap_old (by simp<;>omega)).trans ((heap_old (by simp<;>omega)).trans (heap_newJ (by simp)))))))))
 h7:=(heap_old (by simp<;>omega)).trans ((heap_old (by simp<;>omega)).trans ((heap_old (by simp<;>omega)).trans ((heap_old (by simp<;>omega)).trans ((heap_old (by simp<;>omega)).trans ((heap_old (by simp<;>omega)).trans ((heap_old (by simp<;>omega)).trans (heap_newJ (by simp))))))))
 h8:=(heap_old (by simp<;>omega)).trans ((heap_old (by simp<;>omega)).trans ((heap_old (by simp<;>omega)).trans ((heap_old (by simp<;>omega)).trans ((heap_old (by simp<;>omega)).trans ((heap_old (by simp<;>omega)).trans (heap_newJ (by simp)))))))
 h9:=(heap_old (by simp<;>omega)).trans ((heap_old (by simp<;>omega)).trans ((heap_old (by simp<;>omega)).trans ((heap_old (by simp<;>omega)).trans ((heap_old (by simp<;>omega)).trans (heap_newJ (by simp))))))
 h10:=(heap_old (by simp<;>omega)).trans ((heap_old (by simp<;>omega)).trans ((heap_old (by simp<;>omega)).trans ((heap_old (by simp<;>omega)).trans (heap_newJ (by simp)))))
 h11:=(heap_old (by simp<;>omega)).trans ((heap_old (by simp<;>omega)).trans ((heap_old (by simp<;>omega)).trans (heap_newJ (by simp))))
 h12:=(heap_old (by simp<;>omega)).trans ((heap_old (by simp<;>omega)).trans (heap_newJ (by simp)))
 h13:=(heap_old (by simp<;>omega)).trans (heap_newJ (by simp))
 h14:=heap_newJ (by simp)
 size:=by simp [tabW]
 below:=((((((((((((((((Below.refl _ _).alloc (by simp) _).alloc (by simp) _).alloc (by simp;omega) _).alloc (by simp;omega) _).alloc (by simp;omega) _).alloc (by simp;omega) _).alloc (by simp;omega) _).alloc (by simp;omega) _).alloc (by simp;omega) _).alloc (by simp;omega) _).alloc (by simp;omega) _).alloc (by simp;omega) _).alloc (by simp;omega) _).alloc (by simp;omega) _).alloc (by simp;omega) _)
structure TI where
 kd:Nat
 dst:Nat
 s:Nat
 ps:Array (Nat×Operand)
 x:Operand
def TI.load (d s:Nat):TI:=⟨0,d,s,#[],.tmp 0⟩
def TI.build (d t:Nat) (ps:Array (Nat×Operand)):TI:=⟨1,d,t,ps,.tmp 0⟩
def TI.move (d:Nat) (x:Operand):TI:=⟨2,d,0,#[],x⟩
def TI.op (i:TI):Op:=if i.kd=0 then .load 178 (.tmp i.s) else if i.kd=1 then .build i.s i.ps else .move i.x
def TI.val (mem:Nat→Option (Array Value)) (blt:Nat→Array (Nat×Operand)→Act→Option (Array Value)) (ev:Act→Operand→Value) (i:TI) (a:Act):Option Value :=
 if i.kd=0 then (mem i.s).map Value.agg else if i.kd=1 then (blt i.s i.ps a).map Value.agg else some (ev a i.x)
def tabsG (mem:Nat→Option (Array Value)) (blt:Nat→Array (Nat×Operand)→Act→Option (Array Value)) (ev:Act→Operand→Value) (put:Act→Option Tmp→Value→Act):List TI→Act→Option Act
 |[],a=>some a
 |i::l,a=>if (mem i.dst).isNone=true then (i.val mem blt ev a).bind fun v=>tabsG mem blt ev put l (put a (some i.dst) v) else none
abbrev Tabs (mem:Nat→Option (Array Value)) (is:List TI) (a a':Act):Prop :=
 tabsG mem (fun t ps a=>Tryz.prog.built t (ps.map fun(i,x)=>(i,a.eval x)).toList) Act.eval Act.put is a=some a'
def Fits:List TI→List Oper→Prop
 |[],_=>True
 |_::_,[]=>False
 |i::is,o::os=>(o.guard=none∧o.dst=some i.dst∧o.op=i.op)∧Fits is os
def Mem (mem:Nat→Option (Array Value)) (a:Act) (W:World):Prop :=
 ∀s cs,mem s=some cs→cs.size=3∧∃g fr,a.eval (.tmp s)=.pointer (some ⟨g,0,none⟩)∧W.heap[g]?=some (.cells cs 178 fr)
theorem eval_put_ne (a:Act) (d s:Nat) (v:Value) (h:s≠d):(a.put (some d) v).eval (.tmp s)=a.eval (.tmp s):=by
 simp [Act.put,Act.eval,Ne.symm h]
theorem Mem.put {mem:Nat→Option (Array Value)} {a:Act} {W:World} (H:Mem mem a W) (d:Nat) (hd:(mem d).isNone=true) (v:Value):Mem mem (a.put (some d) v) W:=by
 intro s cs hs;obtain⟨h1,g,fr,h2,h3⟩:=H s cs hs;refine⟨h1,g,fr,?_,h3⟩;rw [eval_put_ne a d s v (by rintro rfl;rw [hs] at hd;cases hd)];exact h2
theorem tabs_sound {mem:Nat→Option (Array Value)} {ops:Array Oper} {Q:Exit→Act→World→Prop} {W:World}:∀(is:List TI) (l:List Oper) (a a':Act),
  Tabs mem is a a'→Fits is l→Mem mem a W→wpList Tryz.prog ops Q (l.drop is.length) a' W→wpList Tryz.prog ops Q l a W
 |[],l,a,a',h,_,_,hk=>by injection h with h;subst h;exact hk
 |i::is,[],a,a',h,hf,_,_=>hf.elim
 |i::is,o::l,a,a',h,hf,H,hk=>by
  rw [Tabs,tabsG] at h
  split at h
  ·rename_i hc
   obtain⟨⟨hg,hd,ho⟩,hf⟩:=hf
   cases hv:i.val mem (fun t ps a=>Tryz.prog.built t (ps.map fun(i,x)=>(i,a.eval x)).toList) Act.eval a with
   |none=>rw [hv] at h;cases h
   |some v =>
    rw [hv,Option.bind_some] at h;have hk:=tabs_sound is l _ a' h hf (H.put _ hc v) hk;by_cases h0:i.kd=0
    ·rw [TI.val,if_pos h0] at hv;rw [TI.op,if_pos h0] at ho
     cases hm:mem i.s with
     |none=>rw [hm] at hv;cases hv
     |some cs =>
      rw [hm] at hv
      injection hv with hv
      subst hv;obtain⟨h1,g,fr,h2,h3⟩:=H i.s cs hm;refine wpList_load_row hg 178 (.tmp i.s) ho g h2 178 cs fr _ h3 Tryz.underlying178 rfl ?_ (by rw [hd];exact hk);rw [h1];kernel_rfl
    ·by_cases h1:i.kd=1
     ·rw [TI.val,if_neg h0,if_pos h1] at hv;rw [TI.op,if_neg h0,if_pos h1] at ho
      cases hb:Tryz.prog.built i.s (i.ps.map fun(i,x)=>(i,a.eval x)).toList with
      |none=>rw [hb] at hv;cases hv
      |some cs =>
       rw [hb] at hv
       injection hv with hv
       subst hv;refine wpList_build hg i.s i.ps ho (by rw [hb];rfl) ?_;rw [hb,hd];exact hk
     ·rw [TI.val,if_neg h0,if_neg h1] at hv;rw [TI.op,if_neg h0,if_neg h1] at ho
      injection hv with hv
      subst hv;exact wpList_plain hg fun _ hK=>BigFrame.wp_move i.x ho (by rw [hd];exact hK _ _ hk)
  ·cases h
def Ar:Array Value:=#[.func (.func 185) #[] #[],.func (.func 186) #[] #[],.func (.func 187) #[] #[]]
def Sr:Value:=.agg Ar
def AnR:Array Value:=#[.func (.func 188) #[] #[],.nilFunc,.nilFunc]
def SnR:Value:=.agg AnR
def As:Array Value:=#[.func (.func 189) #[] #[],.func (.func 190) #[] #[],.func (.func 191) #[] #[]]
def Ss:Value:=.agg As
def AnS:Array Value:=#[.func (.func 192) #[] #[],.nilFunc,.nilFunc]
def SnS:Value:=.agg AnS
def At:Array Value:=#[.func (.func 193) #[] #[],.func (.func 194) #[] #[],.func (.func 195) #[] #[]]
def St:Value:=.agg At
def AnT:Array Value:=#[.func (.func 196) #[] #[],.nilFunc,.nilFunc]
def SnT:Value:=.agg AnT
def Av:Array Value:=#[.func (.func 197) #[] #[],.func (.func 198) #[] #[],.func (.func 199) #[] #[]]
def Sv:Value:=.agg Av
def AnV:Array Value:=#[.func (.func 200) #[] #[],.nilFunc,.nilFunc]
def SnV:Value:=.agg AnV
def Afits:Array Value:=#[.func (.func 201) #[] #[],.func (.func 190) #[] #[],.func (.func 191) #[] #[]]
def Sfits:Value:=.agg Afits
def Atime:Array Value:=#[.func (.func 202) #[] #[],.func (.func 198) #[] #[],.func (.func 199) #[] #[]]
def Stime:Value:=.agg Atime
def AonOff:Array Value:=#[.func (.func 203) #[] #[],.func (.func 198) #[] #[],.func (.func 199) #[] #[]]
def SonOff:Value:=.agg AonOff
def P1:Value:=.agg #[.func (.func 185) #[] #[],.func (.func 186) #[] #[],.func (.func 187) #[] #[],.func (.func 192) #[] #[],.nilFunc,.nilFunc,.func (.func 196) #[] #[],.nilFunc,.nilFunc,.func (.func 197) #[] #[],.func (.func 198) #[] #[],.func (.func 199) #[] #[]]
def P2:Value:=.agg #[.func (.func 185) #[] #[],.func (.func 186) #[] #[],.func (.func 187) #[] #[],.func (.func 189) #[] #[],.func (.func 190) #[] #[],.func (.func 191) #[] #[],.func (.func 196) #[] #[],.nilFunc,.nilFunc,.func (.func 200) #[] #[],.nilFunc,.nilFunc]
def P3:Value:=.agg #[.func (.func 185) #[] #[],.func (.func 186) #[] #[],.func (.func 187) #[] #[],.func (.func 189) #[] #[],.func (.func 190) #[] #[],.func (.func 191) #[] #[],.func (.func 196) #[] #[],.nilFunc,.nilFunc,.func (.func 200) #[] #[],.nilFunc,.nilFunc]
def P4:Value:=.agg #[.func (.func 185) #[] #[],.func (.func 186) #[] #[],.func (.func 187) #[] #[],.func (.func 192) #[] #[],.nilFunc,.nilFunc,.func (.func 196) #[] #[],.nilFunc,.nilFunc,.func (.func 200) #[] #[],.nilFunc,.nilFunc]
def P5:Value:=.agg #[.func (.func 185) #[] #[],.func (.func 186) #[] #[],.func (.func 187) #[] #[],.func (.func 192) #[] #[],.nilFunc,.nilFunc,.func (.func 193) #[] #[],.func (.func 194) #[] #[],.func (.func 195) #[] #[],.func (.func 200) #[] #[],.nilFunc,.nilFunc]
def P6:Value:=.agg #[.func (.func 185) #[] #[],.func (.func 186) #[] #[],.func (.func 187) #[] #[],.func (.func 189) #[] #[],.func (.func 190) #[] #[],.func (.func 191) #[] #[],.func (.func 196) #[] #[],.nilFunc,.nilFunc,.func (.func 200) #[] #[],.nilFunc,.nilFunc]
def P7:Value:=.agg #[.func (.func 185) #[] #[],.func (.func 186) #[] #[],.func (.func 187) #[] #[],.func (.func 201) #[] #[],.func (.func 190) #[] #[],.func (.func 191) #[] #[],.func (.func 196) #[] #[],.nilFunc,.nilFunc,.func (.func 200) #[] #[],.nilFunc,.nilFunc]
def P8:Value:=.agg #[.func (.func 185) #[] #[],.func (.func 186) #[] #[],.func (.func 187) #[] #[],.func (.func 201) #[] #[],.func (.func 190) #[] #[],.func (.func 191) #[] #[],.func (.func 193) #[] #[],.func (.func 194) #[] #[],.func (.func 195) #[] #[],.func (.func 202) #[] #[],.func (.func 198) #[] #[],.func (.func 199) #[] #[]]
def P9:Value:=.agg #[.func (.func 188) #[] #[],.nilFunc,.nilFunc,.func (.func 192) #[] #[],.nilFunc,.nilFunc,.func (.func 193) #[] #[],.func (.func 194) #[] #[],.func (.func 195) #[] #[],.func (.func 200) #[] #[],.nilFunc,.nilFunc]
def P10:Value:=.agg #[.func (.func 185) #[] #[],.func (.func 186) #[] #[],.func (.func 187) #[] #[],.func (.func 192) #[] #[],.nilFunc,.nilFunc,.func (.func 193) #[] #[],.func (.func 194) #[] #[],.func (.func 195) #[] #[],.func (.func 197) #[] #[],.func (.func 198) #[] #[],.func (.func 199) #[] #[]]
def P11:Value:=.agg #[.func (.func 185) #[] #[],.func (.func 186) #[] #[],.func (.func 187) #[] #[],.func (.func 192) #[] #[],.nilFunc,.nilFunc,.func (.func 196) #[] #[],.nilFunc,.nilFunc,.func (.func 200) #[] #[],.nilFunc,.nilFunc]
def P12:Value:=.agg #[.func (.func 185) #[] #[],.func (.func 186) #[] #[],.func (.func 187) #[] #[],.func (.func 192) #[] #[],.nilFunc,.nilFunc,.func (.func 196) #[] #[],.nilFunc,.nilFunc,.func (.func 200) #[] #[],.nilFunc,.nilFunc]
def P13:Value:=.agg #[.func (.func 188) #[] #[],.nilFunc,.nilFunc,.func (.func 192) #[] #[],.nilFunc,.nilFunc,.func (.func 196) #[] #[],.nilFunc,.nilFunc,.func (.func 203) #[] #[],.func (.func 198) #[] #[],.func (.func 199) #[] #[]]
def P14:Value:=.agg #[.func (.func 185) #[] #[],.func (.func 186) #[] #[],.func (.func 187) #[] #[],.func (.func 192) #[] #[],.nilFunc,.nilFunc,.func (.func 196) #[] #[],.nilFunc,.nilFunc,.func (.func 200) #[] #[],.nilFunc,.nilFunc]
def L1:List Value:=[.string ⟨#[115,101,116]⟩,.func (.func 185) #[] #[],.func (.func 186) #[] #[],.func (.func 187) #[] #[],.func (.func 192) #[] #[],.nilFunc,.nilFunc,.func (.func 196) #[] #[],.nilFunc,.nilFunc,.func (.func 197) #[] #[],.func (.func 198) #[] #[],.func (.func 199) #[] #[],(.slice none 0 0)]
def F1:Value:=.agg (L1).toArray
def L2 (y:Nat):List Value:=[.string ⟨#[109,111,118,101]⟩,.func (.func 185) #[] #[],.func (.func 186) #[] #[],.func (.func 187) #[] #[],.func (.func 189) #[] #[],.func (.func 190) #[] #[],.func (.func 191) #[] #[],.func (.func 196) #[] #[],.nilFunc,.nilFunc,.func (.func 200) #[] #[],.nilFunc,.nilFunc,(.slice (some ⟨y,0,none⟩) 1 1)]
def F2 (y:Nat):Value:=.agg (L2 y).toArray
def L3 (z:Nat):List Value:=[.string ⟨#[97,100,100]⟩,.func (.func 185) #[] #[],.func (.func 186) #[] #[],.func (.func 187) #[] #[],.func (.func 189) #[] #[],.func (.func 190) #[] #[],.func (.func 191) #[] #[],.func (.func 196) #[] #[],.nilFunc,.nilFunc,.func (.func 200) #[] #[],.nilFunc,.nilFunc,(.slice (some ⟨z,0,none⟩) 2 2)]
def F3 (z:Nat):Value:=.agg (L3 z).toArray
def L4:List Value:=[.string ⟨#[115,101,108,102]⟩,.func (.func 185) #[] #[],.func (.func 186) #[] #[],.func (.func 187) #[] #[],.func (.func 192) #[] #[],.nilFunc,.nilFunc,.func (.func 196) #[] #[],.nilFunc,.nilFunc,.func (.func 200) #[] #[],.nilFunc,.nilFunc,(.slice none 0 0)]
def F4:Value:=.agg (L4).toArray
def L5:List Value:=[.string ⟨#[98,101,103,105,110]⟩,.func (.func 185) #[] #[],.func (.func 186) #[] #[],.func (.func 187) #[] #[],.func (.func 192) #[] #[],.nilFunc,.nilFunc,.func (.func 193) #[] #[],.func (.func 194) #[] #[],.func (.func 195) #[] #[],.func (.func 200) #[] #[],.nilFunc,.nilFunc,(.slice none 0 0)]
def F5:Value:=.agg (L5).toArray
def L6 (z:Nat):List Value:=[.string ⟨#[115,101,110,100]⟩,.func (.func 185) #[] #[],.func (.func 186) #[] #[],.func (.func 187) #[] #[],.func (.func 189) #[] #[],.func (.func 190) #[] #[],.func (.func 191) #[] #[],.func (.func 196) #[] #[],.nilFunc,.nilFunc,.func (.func 200) #[] #[],.nilFunc,.nilFunc,(.slice (some ⟨z,0,none⟩) 2 2)]
def F6 (z:Nat):Value:=.agg (L6 z).toArray
def L7:List Value:=[.string ⟨#[116,97,107,101]⟩,.func (.func 185) #[] #[],.func (.func 186) #[] #[],.func (.func 187) #[] #[],.func (.func 201) #[] #[],.func (.func 190) #[] #[],.func (.func 191) #[] #[],.func (.func 196) #[] #[],.nilFunc,.nilFunc,.func (.func 200) #[] #[],.nilFunc,.nilFunc,(.slice none 0 0)]
def F7:Value:=.agg (L7).toArray
def L8:List Value:=[.string ⟨#[97,102,116,101,114]⟩,.func (.func 185) #[] #[],.func (.func 186) #[] #[],.func (.func 187) #[] #[],.func (.func 201) #[] #[],.func (.func 190) #[] #[],.func (.func 191) #[] #[],.func (.func 193) #[] #[],.func (.func 194) #[] #[],.func (.func 195) #[] #[],.func (.func 202) #[] #[],.func (.func 198) #[] #[],.func (.func 199) #[] #[],(.slice none 0 0)]
def F8:Value:=.agg (L8).toArray
def L9:List Value:=[.string ⟨#[103,111]⟩,.func (.func 188) #[] #[],.nilFunc,.nilFunc,.func (.func 192) #[] #[],.nilFunc,.nilFunc,.func (.func 193) #[] #[],.func (.func 194) #[] #[],.func (.func 195) #[] #[],.func (.func 200) #[] #[],.nilFunc,.nilFunc,(.slice none 0 0)]
def F9:Value:=.agg (L9).toArray
def L10 (x:Nat):List Value:=[.string ⟨#[105,102]⟩,.func (.func 185) #[] #[],.func (.func 186) #[] #[],.func (.func 187) #[] #[],.func (.func 192) #[] #[],.nilFunc,.nilFunc,.func (.func 193) #[] #[],.func (.func 194) #[] #[],.func (.func 195) #[] #[],.func (.func 197) #[] #[],.func (.func 198) #[] #[],.func (.func 199) #[] #[],(.slice (some ⟨x,0,none⟩) 1 1)]
def F10 (x:Nat):Value:=.agg (L10 x).toArray
def L11 (x:Nat):List Value:=[.string ⟨#[108,105,110,107]⟩,.func (.func 185) #[] #[],.func (.func 186) #[] #[],.func (.func 187) #[] #[],.func (.func 192) #[] #[],.nilFunc,.nilFunc,.func (.func 196) #[] #[],.nilFunc,.nilFunc,.func (.func 200) #[] #[],.nilFunc,.nilFunc,(.slice (some ⟨x,0,none⟩) 1 1)]
def F11 (x:Nat):Value:=.agg (L11 x).toArray
def L12 (x:Nat):List Value:=[.string ⟨#[119,97,116,99,104]⟩,.func (.func 185) #[] #[],.func (.func 186) #[] #[],.func (.func 187) #[] #[],.func (.func 192) #[] #[],.nilFunc,.nilFunc,.func (.func 196) #[] #[],.nilFunc,.nilFunc,.func (.func 200) #[] #[],.nilFunc,.nilFunc,(.slice (some ⟨x,0,none⟩) 1 1)]
def F12 (x:Nat):Value:=.agg (L12 x).toArray
def L13:List Value:=[.string ⟨#[116,114,97,112]⟩,.func (.func 188) #[] #[],.nilFunc,.nilFunc,.func (.func 192) #[] #[],.nilFunc,.nilFunc,.func (.func 196) #[] #[],.nilFunc,.nilFunc,.func (.func 203) #[] #[],.func (.func 198) #[] #[],.func (.func 199) #[] #[],(.slice none 0 0)]
def F13:Value:=.agg (L13).toArray
def L14 (x:Nat):List Value:=[.string ⟨#[101,110,100]⟩,.func (.func 185) #[] #[],.func (.func 186) #[] #[],.func (.func 187) #[] #[],.func (.func 192) #[] #[],.nilFunc,.nilFunc,.func (.func 196) #[] #[],.nilFunc,.nilFunc,.func (.func 200) #[] #[],.nilFunc,.nilFunc,(.slice (some ⟨x,0,none⟩) 1 1)]
def F14 (x:Nat):Value:=.agg (L14 x).toArray
def L0:List Value:=[.string ⟨#[]⟩,.nilFunc,.nilFunc,.nilFunc,.nilFunc,.nilFunc,.nilFunc,.nilFunc,.nilFunc,.nilFunc,.nilFunc,.nilFunc,.nilFunc,.slice none 0 0]
def tabA (x y z:Nat):Array Value:=(L0++L1++L2 y++L3 z++L4++L5++L6 z++L7++L8++L9++L10 x++L11 x++L12 x++L13++L14 x).toArray
def tabV (x y z:Nat):Value:=.agg (tabA x y z)
def memT:Nat→Option (Array Value)
 |4=>some Ar
 |5=>some AnR
 |6=>some As
 |7=>some AnS
 |8=>some At
 |9=>some AnT
 |10=>some Av
 |11=>some AnV
 |12=>some Afits
 |13=>some Atime
 |14=>some AonOff
 |_=>none
def progT:List TI :=
 [.load 33 4,
  .load 34 7,
  .load 35 9,
  .load 36 10,
  .build 37 179 #[(0,.tmp 33),(1,.tmp 34),(2,.tmp 35),(3,.tmp 36)],
  .build 38 182 #[(0,.const (.string ⟨#[115,101,116]⟩)),(1,.tmp 37),(2,.const (.slice none 0 0))],
  .load 39 4,
  .load 40 6,
  .load 41 9,
  .load 42 11,
  .build 43 179 #[(0,.tmp 39),(1,.tmp 40),(2,.tmp 41),(3,.tmp 42)],
  .move 44 (.tmp 16),
  .build 45 182 #[(0,.const (.string ⟨#[109,111,118,101]⟩)),(1,.tmp 43),(2,.tmp 44)],
  .load 46 4,
  .load 47 6,
  .load 48 9,
  .load 49 11,
  .build 50 179 #[(0,.tmp 46),(1,.tmp 47),(2,.tmp 48),(3,.tmp 49)],
  .move 51 (.tmp 17),
  .build 52 182 #[(0,.const (.string ⟨#[97,100,100]⟩)),(1,.tmp 50),(2,.tmp 51)],
  .load 53 4,
  .load 54 7,
  .load 55 9,
  .load 56 11,
  .build 57 179 #[(0,.tmp 53),(1,.tmp 54),(2,.tmp 55),(3,.tmp 56)],
  .build 58 182 #[(0,.const (.string ⟨#[115,101,108,102]⟩)),(1,.tmp 57),(2,.const (.slice none 0 0))],
  .load 59 4,
  .load 60 7,
  .load 61 8,
  .load 62 11,
  .build 63 179 #[(0,.tmp 59),(1,.tmp 60),(2,.tmp 61),(3,.tmp 62)],
  .build 64 182 #[(0,.const (.string ⟨#[98,101,103,105,110]⟩)),(1,.tmp 63),(2,.const (.slice none 0 0))],
  .load 65 4,
  .load 66 6,
  .load 67 9,
  .load 68 11,
  .build 69 179 #[(0,.tmp 65),(1,.tmp 66),(2,.tmp 67),(3,.tmp 68)],
  .move 70 (.tmp 17),
  .build 71 182 #[(0,.const (.string ⟨#[115,101,110,100]⟩)),(1,.tmp 69),(2,.tmp 70)],
  .load 72 4,
  .load 73 12,
  .load 74 9,
  .load 75 11,
  .build 76 179 #[(0,.tmp 72),(1,.tmp 73),(2,.tmp 74),(3,.tmp 75)],
  .build 77 182 #[(0,.const (.string ⟨#[116,97,107,101]⟩)),(1,.tmp 76),(2,.const (.slice none 0 0))],
  .load 78 4,
  .load 79 12,
  .load 80 8,
  .load 81 13,
  .build 82 179 #[(0,.tmp 78),(1,.tmp 79),(2,.tmp 80),(3,.tmp 81)],
  .build 83 182 #[(0,.const (.string ⟨#[97,102,116,101,114]⟩)),(1,.tmp 82),(2,.const (.slice none 0 0))],
  .load 84 5,
  .load 85 7,
  .load 86 8,
  .load 87 11,
  .build 88 179 #[(0,.tmp 84),(1,.tmp 85),(2,.tmp 86),(3,.tmp 87)],
  .build 89 182 #[(0,.const (.string ⟨#[103,111]⟩)),(1,.tmp 88),(2,.const (.slice none 0 0))],
  .load 90 4,
  .load 91 7,
  .load 92 8,
  .load 93 10,
  .build 94 179 #[(0,.tmp 90),(1,.tmp 91),(2,.tmp 92),(3,.tmp 93)],
  .move 95 (.tmp 15),
  .build 96 182 #[(0,.const (.string ⟨#[105,102]⟩)),(1,.tmp 94),(2,.tmp 95)],
  .load 97 4,
  .load 98 7,
  .load 99 9,
  .load 100 11,
  .build 101 179 #[(0,.tmp 97),(1,.tmp 98),(2,.tmp 99),(3,.tmp 100)],
  .move 102 (.tmp 15),
  .build 103 182 #[(0,.const (.string ⟨#[108,105,110,107]⟩)),(1,.tmp 101),(2,.tmp 102)],
  .load 104 4,
  .load 105 7,
  .load 106 9,
  .load 107 11,
  .build 108 179 #[(0,.tmp 104),(1,.tmp 105),(2,.tmp 106),(3,.tmp 107)],
  .move 109 (.tmp 15),
  .build 110 182 #[(0,.const (.string ⟨#[119,97,116,99,104]⟩)),(1,.tmp 108),(2,.tmp 109)],
  .load 111 5,
  .load 112 7,
  .load 113 9,
  .load 114 14,
  .build 115 179 #[(0,.tmp 111),(1,.tmp 112),(2,.tmp 113),(3,.tmp 114)],
  .build 116 182 #[(0,.const (.string ⟨#[116,114,97,112]⟩)),(1,.tmp 115),(2,.const (.slice none 0 0))],
  .load 117 4,
  .load 118 7,
  .load 119 9,
  .load 120 11,
  .build 121 179 #[(0,.tmp 117),(1,.tmp 118),(2,.tmp 119),(3,.tmp 120)],
  .move 122 (.tmp 15),
  .build 123 182 #[(0,.const (.string ⟨#[101,110,100]⟩)),(1,.tmp 121),(2,.tmp 122)],
  .build 124 202 #[(1,.tmp 38),(2,.tmp 45),(3,.tmp 52),(4,.tmp 58),(5,.tmp 64),(6,.tmp 71),(7,.tmp 77),(8,.tmp 83),(9,.tmp 89),(10,.tmp 96),(11,.tmp 103),(12,.tmp 110),(13,.tmp 116),(14,.tmp 123)]]
def actT (k:Int) (b a1 a2 a3 a4 a5 a6 a7 a8 a9 a10 a11 x y z:Nat):Act :=
 { tmps:=#[.int .i64 k,undef,.pointer (some ⟨b,0,none⟩),.bool false,.pointer (some ⟨a1,0,none⟩),.pointer (some ⟨a2,0,none⟩),.pointer (some ⟨a3,0,none⟩),.pointer (some ⟨a4,0,none⟩),.pointer (some ⟨a5,0,none⟩),.pointer (some ⟨a6,0,none⟩),.pointer (some ⟨a7,0,none⟩),.pointer (some ⟨a8,0,none⟩),.pointer (some ⟨a9,0,none⟩),.pointer (some ⟨a10,0,none⟩),.pointer (some ⟨a11,0,none⟩),.slice (some ⟨x,0,none⟩) 1 1,.slice (some ⟨y,0,none⟩) 1 1,.slice (some ⟨z,0,none⟩) 2 2,undef,Sr,SnR,Ss,SnS,St,SnT,Sv,SnV,Sfits,Stime,SonOff,.slice (some ⟨x,0,none⟩) 1 1,.slice (some ⟨y,0,none⟩) 1 1,.slice (some ⟨z,0,none⟩) 2 2,Sr,SnS,SnT,Sv,P1,F1,Sr,Ss,SnT,SnV,P2,(.slice (some ⟨y,0,none⟩) 1 1),F2 y,Sr,Ss,SnT,SnV,P3,(.slice (some ⟨z,0,none⟩) 2 2),F3 z,Sr,SnS,SnT,SnV,P4,F4,Sr,SnS,St,SnV,P5,F5,Sr,Ss,SnT,SnV,P6,(.slice (some ⟨z,0,none⟩) 2 2),F6 z,Sr,Sfits,SnT,SnV,P7,F7,Sr,Sfits,St,Stime,P8,F8,SnR,SnS,St,SnV,P9,F9,Sr,SnS,St,Sv,P10,(.slice (some ⟨x,0,none⟩) 1 1),F10 x,Sr,SnS,SnT,SnV,P11,(.slice (some ⟨x,0,none⟩) 1 1),F11 x,Sr,SnS,SnT,SnV,P12,(.slice (some ⟨x,0,none⟩) 1 1),F12 x,SnR,SnS,SnT,SonOff,P13,F13,Sr,SnS,SnT,SnV,P14,(.slice (some ⟨x,0,none⟩) 1 1),F14 x,tabV x y z,undef,undef,undef,undef,undef,undef,undef,undef,undef,undef],defers:=[] }
theorem tabs_T (k:Int) (b a1 a2 a3 a4 a5 a6 a7 a8 a9 a10 a11 x y z:Nat):Tabs memT progT { tmps:=#[.int .i64 k,undef,.pointer (some ⟨b,0,none⟩),.bool false,.pointer (some ⟨a1,0,none⟩),.pointer (some ⟨a2,0,none⟩),.pointer (some ⟨a3,0,none⟩),.pointer (some ⟨a4,0,none⟩),.pointer (some ⟨a5,0,none⟩),.pointer (some ⟨a6,0,none⟩),.pointer (some ⟨a7,0,none⟩),.pointer (some ⟨a8,0,none⟩),.pointer (some ⟨a9,0,none⟩),.pointer (some ⟨a10,0,none⟩),.pointer (some ⟨a11,0,none⟩),.slice (some ⟨x,0,none⟩) 1 1,.slice (some ⟨y,0,none⟩) 1 1,.slice (some ⟨z,0,none⟩) 2 2,undef,.agg #[.func (.func 185) #[] #[],.func (.func 186) #[] #[],.func (.func 187) #[] #[]],.agg #[.func (.func 188) #[] #[],.nilFunc,.nilFunc],.agg #[.func (.func 189) #[] #[],.func (.func 190) #[] #[],.func (.func 191) #[] #[]],.agg #[.func (.func 192) #[] #[],.nilFunc,.nilFunc],.agg #[.func (.func 193) #[] #[],.func (.func 194) #[] #[],.func (.func 195) #[] #[]],.agg #[.func (.func 196) #[] #[],.nilFunc,.nilFunc],.agg #[.func (.func 197) #[] #[],.func (.func 198) #[] #[],.func (.func 199) #[] #[]],.agg #[.func (.func 200) #[] #[],.nilFunc,.nilFunc],.agg #[.func (.func 201) #[] #[],.func (.func 190) #[] #[],.func (.func 191) #[] #[]],.agg #[.func (.func 202) #[] #[],.func (.func 198) #[] #[],.func (.func 199) #[] #[]],.agg #[.func (.func 203) #[] #[],.func (.func 198) #[] #[],.func (.func 199) #[] #[]],.slice (some ⟨x,0,none⟩) 1 1,.slice (some ⟨y,0,none⟩) 1 1,.slice (some ⟨z,0,none⟩) 2 2,undef,undef,undef,undef,undef,undef,undef,undef,undef,undef,undef,undef,undef,undef,undef,undef,undef,undef,undef,undef,undef,undef,undef,undef,undef,undef,undef,undef,undef,undef,undef,undef,undef,undef,undef,undef,undef,undef,undef,undef,undef,undef,undef,undef,undef,undef,undef,undef,undef,undef,undef,undef,undef,undef,undef,undef,undef,undef,undef,undef,undef,undef,undef,undef,undef,undef,undef,undef,undef,undef,undef,undef,undef,undef,undef,undef,undef,undef,undef,undef,undef,undef,undef,undef,undef,undef,undef,undef,undef,undef,undef,undef,undef,undef,undef,undef,undef,undef,undef,undef,undef,undef],defers:=[] } (actT k b a1 a2 a3 a4 a5 a6 a7 a8 a9 a10 a11 x y z):=by unfold Tabs;kernel_rfl
end Go.Proofs.YtgmkmeodimmdoaaGreatDoor.Eld
