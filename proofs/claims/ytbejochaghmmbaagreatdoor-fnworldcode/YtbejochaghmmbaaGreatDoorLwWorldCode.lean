import Derived.Test.YtbejochaghmmbaaGreatDoorRexWk
import Derived.Test.YtbejochaghmmbaaGreatDoorSj
import Derived.Test.YtbejochaghmmbaaGreatDoorEFrameN
import Derived.Test.YtbejochaghmmbaaGreatDoorFcFnWorldCode
namespace Go.Proofs.YtbejochaghmmbaaGreatDoor
open Go.ChangeShapes Go.WideShapes Go.ChangeAt Go.RowKit Go.Joins
set_option maxRecDepth 100000
namespace FnWorldCode
def zero2:List Value:=[.int .i64 0,.int .i64 0,.int .i64 0,.int .i64 0,.int .i64 0,.int .i64 0,.int .i64 0,.int .i64 0,.int .i64 0,.int .i64 0,.int .i64 0,.int .i64 0]
def badC:List OpD:=[⟨6,1,2,0,0,0⟩,⟨9,0,0,0,0,0⟩]
theorem bad_no {w:PW}:¬WOk { w with code:=badC }:=fun⟨hs,_⟩=>by
 rcases hs with ⟨_,V,hV,e⟩ | ⟨_,e⟩
 ·have h0:=e.1 rfl 0 (show 0<(badC.map OpD.toV).length by decide) (show 0<(badC.map OpD.toV).length by decide)
  have hle:Eld.Le (Eld.atV V 0) 1:=hV.1.2.1
  have hbd:Eld.Bd (Eld.atV V 0):=hV.1.1.2 0
  have key:∀i:_root_.Fin 17,Eld.meet ((i.val:Int)-1) 1=(i.val:Int)-1→0≤(i.val:Int)-1∧Eld.hasB ((i.val:Int)-1) 1=false:=by decide +kernel
  obtain⟨i,hi⟩:=Eld.bd_fin hbd
  have hm:Eld.meet (Eld.atV V 0) 1=Eld.atV V 0:=by
   rcases hle with h | h
   ·exact absurd h (by decide)
   ·exact h
  rw [hi] at hm
  have k:=key i hm
  rw [←hi] at k
  have:=(h0 k.1).1 1 (by simp [badC,OpD.toV,Eld.usesL])
  rw [k.2] at this
  cases this
 ·cases e
theorem twice_no {w:PW} {V:List Int} (ok:OkS w V):¬WOk { w with runs:=w.runs++[w.runs[0]'ok.n1] }:=fun⟨_,_,_,f⟩=>by
 have h1:=(f.fit w.runs.length (by simp)).id
 have h2:=(ok.fit 0 ok.n1).id
 simp at h1
 rw [h2] at h1
 have:=ok.n1
 omega
theorem sent_no {w:PW} {V:List Int} (ok:OkS w V):¬WOk { w with sent:=wr (w.sent+1) }:=fun⟨_,_,_,f⟩=>by
 have h1:=f.sum
 have h2:=ok.sum
 have h3:=ok.cnt.sent
 have h4:wr (w.sent+1)=w.taken+w.lost+(mailsP w.runs:Int):=h1
 rw [show wr (w.sent+1)=w.sent+1 from wrapN _ (by omega) (by omega)] at h4
 omega
theorem law (a:Option Addr) (len cap:Nat) (cb:Option (Nat×Obj)) (hc:CodeIn a len cap cb) :
  Con Tryz.prog 11 #[.slice a len cap] (cbHp cb) (Yes cb):=by
 refine Con.of_W (tb:=tbE) (args:=[.slice a len cap]) Tryz.func11 rfl Tryz.results11 Tryz.ntmps11 (by simp) (Tryz.call11 _) (tm:=[(0,.v (.slice a len cap))]) rfl ?_
 refine vc_ok ⟨tbE_ok,_,Tryz.func11,Tryz.results11,Tryz.ntmps11⟩ 400 _ _ _ _ ?_
 conv=>whnf
 refine Ext.len Tryz.underlying22 rfl rfl ?_
 conv=>whnf
 refine⟨fun _=>?_,fun _=>?_⟩<;>conv=>whnf
 ·exact⟨rfl,Hp.le_refl _⟩
 have ho:Own (cbHp cb) (cbAtoms cb++[]):=by rw [List.append_nil];exact cb_own cb
 refine(drawWorldOk_con a len cap cb hc _ [] ho).mono ?_
 rintro r h1 ⟨D,rfl,hd,ho1⟩
 have hw:WIn h1 D:=ho1.win fun x hx=>List.mem_append_right _ (List.mem_append_left _ hx)
 have hsm:=hd.sm
 have hle:(cbHp cb).le h1:=cb_le ho1
 conv=>whnf
 refine(iWorldOk_con D hsm hd.why h1 hw.wi).mono ?_
 rintro r h1 ⟨⟨b,rfl,hb⟩,rfl⟩
 conv=>whnf
 refine(sWorldOk_con D hsm h1 hw).mono ?_
 rintro r h1 ⟨⟨b',rfl,hb'⟩,rfl⟩
 obtain rfl:b'=b:=by rw [Bool.eq_iff_iff,hb,hb']
 conv=>whnf
 refine Ext.neqB rfl rfl rfl ?_
 conv=>whnf
 refine⟨fun _=>?_,fun h3=>absurd h3 (by simp)⟩
 conv=>whnf
 refine⟨fun b0=>?_,fun b0=>?_⟩<;>conv=>whnf
 ·refine(sWorldOk_con D hsm h1 hw).mono ?_
  rintro r h1 ⟨⟨b,rfl,hb2⟩,rfl⟩
  obtain rfl:b=b':=by rw [Bool.eq_iff_iff,hb2,hb]
  conv=>whnf
  refine Ext.eqlB rfl rfl rfl ?_
  conv=>whnf
  exact⟨congrArg Value.bool (by simp),hle⟩
 have hok:WOk D.pure:=hb.1 (by simpa using b0)
 clear b0 hb hb'
 obtain⟨hsafe,V,hfull,ok⟩:=hok
 have hn:D.runs.length≤6:=by have:=ok.n6;rw [pure_len] at this;exact this
 have hn1:0<D.runs.length:=by have:=ok.n1;rw [pure_len] at this;omega
 have hlenP:=pure_len D
 obtain⟨gr,hra⟩:=row_some hw.runs (by omega)
 have hrv:D.rv=.slice (some ⟨gr,0,none⟩) D.runs.length D.rk:=by rw [WD.rv,hra]
 refine Ext.buildSlice slOp rfl ho1 zero2 (fun w=>⟨_,Tryz.zeroValue45 w,by kernel_rfl⟩) (badC.flatMap encO) rfl rfl (by decide) fun gb h6 hl6 ho6=>?_
 conv=>whnf
 have ho6':Own h6 (.row (rowO (.slice (some ⟨gb,0,none⟩) badC.length 2) badC)::(cbAtoms cb++(wAtoms D++[]))):=ho6
 have hor:Own h6 (.row (rowR D.rv D.runs)::(.row (rowO (.slice (some ⟨gb,0,none⟩) badC.length 2) badC)::.row (rowI D.qv D.queue)::.row (rowO D.cv D.code)::(D.runs.flatMap runRows++cbAtoms cb))):=ho6'.perm (perm_of fun x=>by simp only [wAtoms,List.count_append,List.count_cons,List.count_nil];omega)
 obtain⟨ob,hob,hof,hthaw⟩:=Own.freeze (r:=rowR D.rv D.runs) hor hrv
 clear hor ho1 ho6 ho6' hw
 have hrow:∀{h':Hp} {L:List Atom},Own h' L→Atom.blk gr ob∈L→RowOk h' (rowR D.rv D.runs):=fun o hm=>hthaw _ (o.ok _ hm)
 have hone:∀{h':Hp} {L:List Atom},Own h' L→Atom.blk gr ob∈L→(oneB gr ob).le h':=fun o hm=>oneB_le (o.ok _ hm)
 refine W.draw [(1,true),(2,true),(4,true),(5,true),(6,true),(7,true),(1000008,false),(1003008,false),(8,false),(9,false),(10,true),(11,false)] [0] (some (oneB gr ob)) 99 (by kernel_rfl) rfl (by kernel_rfl) mixed rfl (fun g e=>by cases e;exact oneB_le hob) ?_
 refine vc_ok ⟨tbE_ok,_,Tryz.func11,Tryz.results11,Tryz.ntmps11⟩ 400 _ _ _ _ ?_
 conv=>whnf
 refine Rd.index slRun.u slRun.size rfl (by exact hrv) rfl 0 rfl hn1 ?_
 conv=>whnf
 refine Rd.load tbE_ok rfl rfl (hthaw _ (oneB_at gr ob)) hrv rfl (by show 0+0*13+13≤D.runs.length*13;omega) (D.runs[0].1.val D.runs[0].2) (.inl ⟨rfl,by rw [Nat.zero_add];exact congrArg (fun l=>Value.agg (List.toArray l)) (flat_at encR 13 encR_len D.runs 0 hn1).symm⟩) ?_
 conv=>whnf
 refine⟨?_,?_⟩
 ·refine Ext.litR0 rfl hof fun g6 h6 _ ho6=>?_
  conv=>whnf
  refine⟨hone ho6 (by simp),?_⟩
  conv=>whnf
  refine⟨?_,?_⟩
  ·refine Ext.pushRs (M:=D.runs) rfl ho6 (hrow ho6 (by simp)) rfl rfl (by simp;omega) fun a7 k7 h7 ho7=>?_
   have ho7':Own h7 (.row (rowR (.slice a7 D.runs.length k7) D.runs)::.blk gr ob::_):=ho7
   conv=>whnf
   refine⟨hone ho7 (by simp),?_⟩
   conv=>whnf
   refine Ext.litR rfl ho7' D.runs[0] rfl fun g8 h8 _ ho8=>?_
   conv=>whnf
   refine⟨hone ho8 (by simp),?_⟩
   conv=>whnf
   refine Ext.pushR rfl ho8 rfl rfl (by omega) fun a9 k9 h9 ho9=>?_
   conv=>whnf
   refine⟨hone ho9 (by simp),?_⟩
   conv=>whnf
   have hD:Own h9 (.row (rowR (.slice a9 (D.runs++[D.runs[0]]).length k9) (D.runs++[D.runs[0]]))::.blk gr ob::(.row (rowO (.slice (some ⟨gb,0,none⟩) badC.length 2) badC)::.row (rowI D.qv D.queue)::.row (rowO D.cv D.code)::(D.runs.flatMap runRows++cbAtoms cb))):=ho9
   have hle9:(cbHp cb).le h9:=cb_le (cb:=cb) (l:=.row (rowR (.slice a9 (D.runs++[D.runs[0]]).length k9) (D.runs++[D.runs[0]]))::.blk gr ob::(.row (rowO (.slice (some ⟨gb,0,none⟩) badC.length 2) badC)::.row (rowI D.qv D.queue)::.row (rowO D.cv D.code)::D.runs.flatMap runRows)) (hD.perm (perm_of fun x=>by simp only [List.count_append,List.count_cons];omega))
   have hRr:RowOk h9 (rowR D.rv D.runs):=hrow hD (by simp)
   have hRc:RowOk h9 (rowO D.cv D.code):=hD.rowOk (by simp)
   have hRb:RowOk h9 (rowO (.slice (some ⟨gb,0,none⟩) badC.length 2) badC):=hD.rowOk (by simp)
   have hRq:RowOk h9 (rowI D.qv D.queue):=hD.rowOk (by simp)
   have hRy:RowOk h9 (rowR (.slice a9 (D.runs++[D.runs[0]]).length k9) (D.runs++[D.runs[0]])):=hD.rowOk (by simp)
   have hRe:∀i (hi:i<D.runs.length),RunIn h9 D.runs[i].1 D.runs[i].2:=fun i hi=>hD.run (d:=D.runs[i].1) (p:=D.runs[i].2) fun x hx=>(by
    have hm:x∈D.runs.flatMap runRows:=List.mem_flatMap.2 ⟨_,List.getElem_mem hi,hx⟩
    simp only [List.mem_cons,List.mem_append]
    exact .inr (.inr (.inr (.inr (.inr (.inl hm))))))
   have hX:WI h9 { D with code:=badC,ca:=some ⟨gb,0,none⟩,ck:=2 }:=⟨hRb,hRr,fun w hw=>ints_at hRq hw,hRe⟩
   have hY:WI h9 { D with runs:=D.runs++[D.runs[0]],ra:=a9,rk:=k9 }:=⟨hRc,hRy,fun w hw=>ints_at hRq hw,fun i hi=>(by
    have hi':i<(D.runs++[D.runs[0]]).length:=hi
    rcases Nat.lt_or_ge i D.runs.length with hl | hl
    ·have e:(D.runs++[D.runs[0]])[i]'hi'=D.runs[i]:=List.getElem_append_left hl
     show RunIn h9 ((D.runs++[D.runs[0]])[i]'hi').1 ((D.runs++[D.runs[0]])[i]'hi').2
     rw [e];exact hRe i hl
    ·have e:(D.runs++[D.runs[0]])[i]'hi'=D.runs[0]:=(by rw [List.getElem_append_right hl];simp)
     show RunIn h9 ((D.runs++[D.runs[0]])[i]'hi').1 ((D.runs++[D.runs[0]])[i]'hi').2
     rw [e];exact hRe 0 hn1)⟩
   have hZ:WI h9 { D with sent:=wr (D.sent+1) }:=⟨hRc,hRr,fun w hw=>ints_at hRq hw,hRe⟩
   have eY:({ D with runs:=D.runs++[D.runs[0]],ra:=a9,rk:=k9 }:WD).pure={ D.pure with runs:=D.pure.runs++[D.pure.runs[0]'ok.n1] }:=(by simp [WD.pure])
   have mY:∀d∈({ D with runs:=D.runs++[D.runs[0]],ra:=a9,rk:=k9 }:WD).pure.runs,d∈D.pure.runs:=fun d hd'=>(by
    rw [eY] at hd'
    rcases List.mem_append.1 hd' with h | h
    ·exact h
    ·rw [List.mem_singleton.1 h];exact List.getElem_mem _)
   have sX:({ D with code:=badC,ca:=some ⟨gb,0,none⟩,ck:=2 }:WD).pure.Sm:=⟨(by show badC.length≤1000;decide),hsm.runs,hsm.queue,hsm.each⟩
   have sY:({ D with runs:=D.runs++[D.runs[0]],ra:=a9,rk:=k9 }:WD).pure.Sm:=⟨hsm.code,(by rw [eY];show (D.pure.runs++_).length≤1000;rw [List.length_append];simp;omega),hsm.queue,fun d hd'=>hsm.each d (mY d hd')⟩
   have sZ:({ D with sent:=wr (D.sent+1) }:WD).pure.Sm:=⟨hsm.code,hsm.runs,hsm.queue,hsm.each⟩
   refine(iCodeSafe_con D.ca D.ck D.code (Nat.le_trans hsm.code (by decide)) h9 hRc).mono ?_
   rintro r h9 ⟨⟨cs,rfl,hcs⟩,rfl⟩
   obtain rfl:cs=true:=Eld.safeOf_one hcs hsafe
   conv=>whnf
   refine⟨fun _=>?_,fun h3=>absurd h3 (by simp)⟩
   conv=>whnf
   refine(iWorldOk_con { D with code:=badC,ca:=some ⟨gb,0,none⟩,ck:=2 } sX hd.why h9 hX).mono ?_
   rintro r h9 ⟨⟨bx,rfl,hbx⟩,rfl⟩
   obtain rfl:bx=false:=Bool.eq_false_iff.2 fun e=>bad_no (w:=D.pure) (hbx.1 e)
   conv=>whnf
   refine⟨fun _=>?_,fun h3=>absurd h3 (by simp)⟩
   conv=>whnf
   refine(iWorldOk_con { D with runs:=D.runs++[D.runs[0]],ra:=a9,rk:=k9 } sY (fun d hd'=>hd.why d (mY d hd')) h9 hY).mono ?_
   rintro r h9 ⟨⟨by_,rfl,hby⟩,rfl⟩
   obtain rfl:by_=false:=Bool.eq_false_iff.2 fun e=>twice_no (w:=D.pure) ok (by rw [←eY];exact hby.1 e)
   conv=>whnf
   refine⟨fun _=>?_,fun h3=>absurd h3 (by simp)⟩
   conv=>whnf
   refine(iWorldOk_con { D with sent:=wr (D.sent+1) } sZ hd.why h9 hZ).mono ?_
   rintro r h9 ⟨⟨bz,rfl,hbz⟩,rfl⟩
   obtain rfl:bz=false:=Bool.eq_false_iff.2 fun e=>sent_no (w:=D.pure) ok (hbz.1 e)
   conv=>whnf
   exact⟨rfl,hle9⟩
  ·refine Ext.litR rfl ho6 D.runs[0] rfl fun g7 h7 _ ho7=>?_
   conv=>whnf
   refine⟨hone ho7 (by simp),?_⟩
   conv=>whnf
   refine Ext.pushRs (M:=D.runs) rfl ho7.swap (hrow ho7 (by simp)) rfl rfl (by simp;omega) fun a8 k8 h8 ho8=>?_
   have ho8':Own h8 (.row (rowR (.slice a8 D.runs.length k8) D.runs)::_::.blk gr ob::_):=ho8
   conv=>whnf
   refine⟨hone ho8 (by simp),?_⟩
   conv=>whnf
   refine Ext.pushR rfl ho8'.swap rfl rfl (by omega) fun a9 k9 h9 ho9=>?_
   conv=>whnf
   refine⟨hone ho9 (by simp),?_⟩
   conv=>whnf
   have hD:Own h9 (.row (rowR (.slice a9 (D.runs++[D.runs[0]]).length k9) (D.runs++[D.runs[0]]))::.blk gr ob::(.row (rowO (.slice (some ⟨gb,0,none⟩) badC.length 2) badC)::.row (rowI D.qv D.queue)::.row (rowO D.cv D.code)::(D.runs.flatMap runRows++cbAtoms cb))):=ho9
   have hle9:(cbHp cb).le h9:=cb_le (cb:=cb) (l:=.row (rowR (.slice a9 (D.runs++[D.runs[0]]).length k9) (D.runs++[D.runs[0]]))::.blk gr ob::(.row (rowO (.slice (some ⟨gb,0,none⟩) badC.length 2) badC)::.row (rowI D.qv D.queue)::.row (rowO D.cv D.code)::D.runs.flatMap runRows)) (hD.perm (perm_of fun x=>by simp only [List.count_append,List.count_cons];omega))
   have hRr:RowOk h9 (rowR D.rv D.runs):=hrow hD (by simp)
   have hRc:RowOk h9 (rowO D.cv D.code):=hD.rowOk (by simp)
   have hRb:RowOk h9 (rowO (.slice (some ⟨gb,0,none⟩) badC.length 2) badC):=hD.rowOk (by simp)
   have hRq:RowOk h9 (rowI D.qv D.queue):=hD.rowOk (by simp)
   have hRy:RowOk h9 (rowR (.slice a9 (D.runs++[D.runs[0]]).length k9) (D.runs++[D.runs[0]])):=hD.rowOk (by simp)
   have hRe:∀i (hi:i<D.runs.length),RunIn h9 D.runs[i].1 D.runs[i].2:=fun i hi=>hD.run (d:=D.runs[i].1) (p:=D.runs[i].2) fun x hx=>(by
    have hm:x∈D.runs.flatMap runRows:=List.mem_flatMap.2 ⟨_,List.getElem_mem hi,hx⟩
    simp only [List.mem_cons,List.mem_append]
    exact .inr (.inr (.inr (.inr (.inr (.inl hm))))))
   have hX:WI h9 { D with code:=badC,ca:=some ⟨gb,0,none⟩,ck:=2 }:=⟨hRb,hRr,fun w hw=>ints_at hRq hw,hRe⟩
   have hY:WI h9 { D with runs:=D.runs++[D.runs[0]],ra:=a9,rk:=k9 }:=⟨hRc,hRy,fun w hw=>ints_at hRq hw,fun i hi=>(by
    have hi':i<(D.runs++[D.runs[0]]).length:=hi
    rcases Nat.lt_or_ge i D.runs.length with hl | hl
    ·have e:(D.runs++[D.runs[0]])[i]'hi'=D.runs[i]:=List.getElem_append_left hl
     show RunIn h9 ((D.runs++[D.runs[0]])[i]'hi').1 ((D.runs++[D.runs[0]])[i]'hi').2
     rw [e];exact hRe i hl
    ·have e:(D.runs++[D.runs[0]])[i]'hi'=D.runs[0]:=(by rw [List.getElem_append_right hl];simp)
     show RunIn h9 ((D.runs++[D.runs[0]])[i]'hi').1 ((D.runs++[D.runs[0]])[i]'hi').2
     rw [e];exact hRe 0 hn1)⟩
   have hZ:WI h9 { D with sent:=wr (D.sent+1) }:=⟨hRc,hRr,fun w hw=>ints_at hRq hw,hRe⟩
   have eY:({ D with runs:=D.runs++[D.runs[0]],ra:=a9,rk:=k9 }:WD).pure={ D.pure with runs:=D.pure.runs++[D.pure.runs[0]'ok.n1] }:=(by simp [WD.pure])
   have mY:∀d∈({ D with runs:=D.runs++[D.runs[0]],ra:=a9,rk:=k9 }:WD).pure.runs,d∈D.pure.runs:=fun d hd'=>(by
    rw [eY] at hd'
    rcases List.mem_append.1 hd' with h | h
    ·exact h
    ·rw [List.mem_singleton.1 h];exact List.getElem_mem _)
   have sX:({ D with code:=badC,ca:=some ⟨gb,0,none⟩,ck:=2 }:WD).pure.Sm:=⟨(by show badC.length≤1000;decide),hsm.runs,hsm.queue,hsm.each⟩
   have sY:({ D with runs:=D.runs++[D.runs[0]],ra:=a9,rk:=k9 }:WD).pure.Sm:=⟨hsm.code,(by rw [eY];show (D.pure.runs++_).length≤1000;rw [List.length_append];simp;omega),hsm.queue,fun d hd'=>hsm.each d (mY d hd')⟩
   have sZ:({ D with sent:=wr (D.sent+1) }:WD).pure.Sm:=⟨hsm.code,hsm.runs,hsm.queue,hsm.each⟩
   refine(iCodeSafe_con D.ca D.ck D.code (Nat.le_trans hsm.code (by decide)) h9 hRc).mono ?_
   rintro r h9 ⟨⟨cs,rfl,hcs⟩,rfl⟩
   obtain rfl:cs=true:=Eld.safeOf_one hcs hsafe
   conv=>whnf
   refine⟨fun _=>?_,fun h3=>absurd h3 (by simp)⟩
   conv=>whnf
   refine(iWorldOk_con { D with code:=badC,ca:=some ⟨gb,0,none⟩,ck:=2 } sX hd.why h9 hX).mono ?_
   rintro r h9 ⟨⟨bx,rfl,hbx⟩,rfl⟩
   obtain rfl:bx=false:=Bool.eq_false_iff.2 fun e=>bad_no (w:=D.pure) (hbx.1 e)
   conv=>whnf
   refine⟨fun _=>?_,fun h3=>absurd h3 (by simp)⟩
   conv=>whnf
   refine(iWorldOk_con { D with runs:=D.runs++[D.runs[0]],ra:=a9,rk:=k9 } sY (fun d hd'=>hd.why d (mY d hd')) h9 hY).mono ?_
   rintro r h9 ⟨⟨by_,rfl,hby⟩,rfl⟩
   obtain rfl:by_=false:=Bool.eq_false_iff.2 fun e=>twice_no (w:=D.pure) ok (by rw [←eY];exact hby.1 e)
   conv=>whnf
   refine⟨fun _=>?_,fun h3=>absurd h3 (by simp)⟩
   conv=>whnf
   refine(iWorldOk_con { D with sent:=wr (D.sent+1) } sZ hd.why h9 hZ).mono ?_
   rintro r h9 ⟨⟨bz,rfl,hbz⟩,rfl⟩
   obtain rfl:bz=false:=Bool.eq_false_iff.2 fun e=>sent_no (w:=D.pure) ok (hbz.1 e)
   conv=>whnf
   exact⟨rfl,hle9⟩
 ·refine Ext.litR rfl hof D.runs[0] rfl fun g6 h6 _ ho6=>?_
  conv=>whnf
  refine⟨hone ho6 (by simp),?_⟩
  conv=>whnf
  refine Ext.litR0 rfl ho6 fun g7 h7 _ ho7=>?_
  conv=>whnf
  refine⟨hone ho7 (by simp),?_⟩
  conv=>whnf
  refine Ext.pushRs (M:=D.runs) rfl ho7 (hrow ho7 (by simp)) rfl rfl (by simp;omega) fun a8 k8 h8 ho8=>?_
  have ho8':Own h8 (.row (rowR (.slice a8 D.runs.length k8) D.runs)::_::.blk gr ob::_):=ho8
  conv=>whnf
  refine⟨hone ho8 (by simp),?_⟩
  conv=>whnf
  refine Ext.pushR rfl ho8'.swap rfl rfl (by omega) fun a9 k9 h9 ho9=>?_
  conv=>whnf
  refine⟨hone ho9 (by simp),?_⟩
  conv=>whnf
  have hD:Own h9 (.row (rowR (.slice a9 (D.runs++[D.runs[0]]).length k9) (D.runs++[D.runs[0]]))::.blk gr ob::(.row (rowO (.slice (some ⟨gb,0,none⟩) badC.length 2) badC)::.row (rowI D.qv D.queue)::.row (rowO D.cv D.code)::(D.runs.flatMap runRows++cbAtoms cb))):=ho9
  have hle9:(cbHp cb).le h9:=cb_le (cb:=cb) (l:=.row (rowR (.slice a9 (D.runs++[D.runs[0]]).length k9) (D.runs++[D.runs[0]]))::.blk gr ob::(.row (rowO (.slice (some ⟨gb,0,none⟩) badC.length 2) badC)::.row (rowI D.qv D.queue)::.row (rowO D.cv D.code)::D.runs.flatMap runRows)) (hD.perm (perm_of fun x=>by simp only [List.count_append,List.count_cons];omega))
  have hRr:RowOk h9 (rowR D.rv D.runs):=hrow hD (by simp)
  have hRc:RowOk h9 (rowO D.cv D.code):=hD.rowOk (by simp)
  have hRb:RowOk h9 (rowO (.slice (some ⟨gb,0,none⟩) badC.length 2) badC):=hD.rowOk (by simp)
  have hRq:RowOk h9 (rowI D.qv D.queue):=hD.rowOk (by simp)
  have hRy:RowOk h9 (rowR (.slice a9 (D.runs++[D.runs[0]]).length k9) (D.runs++[D.runs[0]])):=hD.rowOk (by simp)
  have hRe:∀i (hi:i<D.runs.length),RunIn h9 D.runs[i].1 D.runs[i].2:=fun i hi=>hD.run (d:=D.runs[i].1) (p:=D.runs[i].2) fun x hx=>(by
   have hm:x∈D.runs.flatMap runRows:=List.mem_flatMap.2 ⟨_,List.getElem_mem hi,hx⟩
   simp only [List.mem_cons,List.mem_append]
   exact .inr (.inr (.inr (.inr (.inr (.inl hm))))))
  have hX:WI h9 { D with code:=badC,ca:=some ⟨gb,0,none⟩,ck:=2 }:=⟨hRb,hRr,fun w hw=>ints_at hRq hw,hRe⟩
  have hY:WI h9 { D with runs:=D.runs++[D.runs[0]],ra:=a9,rk:=k9 }:=⟨hRc,hRy,fun w hw=>ints_at hRq hw,fun i hi=>(by
   have hi':i<(D.runs++[D.runs[0]]).length:=hi
   rcases Nat.lt_or_ge i D.runs.length with hl | hl
   ·have e:(D.runs++[D.runs[0]])[i]'hi'=D.runs[i]:=List.getElem_append_left hl
    show RunIn h9 ((D.runs++[D.runs[0]])[i]'hi').1 ((D.runs++[D.runs[0]])[i]'hi').2
    rw [e];exact hRe i hl
   ·have e:(D.runs++[D.runs[0]])[i]'hi'=D.runs[0]:=(by rw [List.getElem_append_right hl];simp)
    show RunIn h9 ((D.runs++[D.runs[0]])[i]'hi').1 ((D.runs++[D.runs[0]])[i]'hi').2
    rw [e];exact hRe 0 hn1)⟩
  have hZ:WI h9 { D with sent:=wr (D.sent+1) }:=⟨hRc,hRr,fun w hw=>ints_at hRq hw,hRe⟩
  have eY:({ D with runs:=D.runs++[D.runs[0]],ra:=a9,rk:=k9 }:WD).pure={ D.pure with runs:=D.pure.runs++[D.pure.runs[0]'ok.n1] }:=(by simp [WD.pure])
  have mY:∀d∈({ D with runs:=D.runs++[D.runs[0]],ra:=a9,rk:=k9 }:WD).pure.runs,d∈D.pure.runs:=fun d hd'=>(by
   rw [eY] at hd'
   rcases List.mem_append.1 hd' with h | h
   ·exact h
   ·rw [List.mem_singleton.1 h];exact List.getElem_mem _)
  have sX:({ D with code:=badC,ca:=some ⟨gb,0,none⟩,ck:=2 }:WD).pure.Sm:=⟨(by show badC.length≤1000;decide),hsm.runs,hsm.queue,hsm.each⟩
  have sY:({ D with runs:=D.runs++[D.runs[0]],ra:=a9,rk:=k9 }:WD).pure.Sm:=⟨hsm.code,(by rw [eY];show (D.pure.runs++_).length≤1000;rw [List.length_append];simp;omega),hsm.queue,fun d hd'=>hsm.each d (mY d hd')⟩
  have sZ:({ D with sent:=wr (D.sent+1) }:WD).pure.Sm:=⟨hsm.code,hsm.runs,hsm.queue,hsm.each⟩
  refine(iCodeSafe_con D.ca D.ck D.code (Nat.le_trans hsm.code (by decide)) h9 hRc).mono ?_
  rintro r h9 ⟨⟨cs,rfl,hcs⟩,rfl⟩
  obtain rfl:cs=true:=Eld.safeOf_one hcs hsafe
  conv=>whnf
  refine⟨fun _=>?_,fun h3=>absurd h3 (by simp)⟩
  conv=>whnf
  refine(iWorldOk_con { D with code:=badC,ca:=some ⟨gb,0,none⟩,ck:=2 } sX hd.why h9 hX).mono ?_
  rintro r h9 ⟨⟨bx,rfl,hbx⟩,rfl⟩
  obtain rfl:bx=false:=Bool.eq_false_iff.2 fun e=>bad_no (w:=D.pure) (hbx.1 e)
  conv=>whnf
  refine⟨fun _=>?_,fun h3=>absurd h3 (by simp)⟩
  conv=>whnf
  refine(iWorldOk_con { D with runs:=D.runs++[D.runs[0]],ra:=a9,rk:=k9 } sY (fun d hd'=>hd.why d (mY d hd')) h9 hY).mono ?_
  rintro r h9 ⟨⟨by_,rfl,hby⟩,rfl⟩
  obtain rfl:by_=false:=Bool.eq_false_iff.2 fun e=>twice_no (w:=D.pure) ok (by rw [←eY];exact hby.1 e)
  conv=>whnf
  refine⟨fun _=>?_,fun h3=>absurd h3 (by simp)⟩
  conv=>whnf
  refine(iWorldOk_con { D with sent:=wr (D.sent+1) } sZ hd.why h9 hZ).mono ?_
  rintro r h9 ⟨⟨bz,rfl,hbz⟩,rfl⟩
  obtain rfl:bz=false:=Bool.eq_false_iff.2 fun e=>sent_no (w:=D.pure) ok (hbz.1 e)
  conv=>whnf
  exact⟨rfl,hle9⟩
theorem walk (a0:Option Addr) (len0 cap0:Nat) (w:World) (h0:Eld.Code0 w a0 len0 cap0):Calls Tryz.prog 11 #[.slice a0 len0 cap0] w fun e w'=>e=.returned (.bool true)∧Below w.heap.size w w':=by
 obtain⟨cb,hc,hi⟩:=code_in h0
 exact((law a0 len0 cap0 cb hc).run w hi).mono fun e w' ⟨v,h',he,hy,hi',hf⟩=>yes_below hi hi' hf he hy
set_option maxRecDepth 20000 in
theorem contract (H:Type) (enc:TypeId×Value→H) (W:World) (base:Nat) (args:Array Value) (ds gs:List (DataW H)) (before:List MemPlace)
  (hval:∀(j:Nat) t v,Tryz.f11.params[j]?=some t→args[j]?=some v→Value.okWide Tryz.prog W .any base t v)
  (hW:DataW.Whole enc Tryz.prog Tryz.f11.params.toList Rows.fnWorldCodeSpec.vars false W args.toList ds gs before) (_hL:laidMetH Tryz.prog Rows.fnWorldCodeRow.laid W) :
  Calls Tryz.prog 11 args W fun e W'=>∃v,e=.returned v∧Rows.fnWorldCodeSpec.post enc Tryz.prog Tryz.f11 false true false false W args v W':=by
 have hW':=hW
 obtain⟨p,q,hA0,hV,rfl,hfz,hnd⟩:=hW
 have hA:DataW.TrodAll enc Tryz.prog W 0 (fun _=>true) true Tryz.f11.params.toList args.toList ds p:=hA0
 rw [Tryz.params11] at hA hval
 obtain⟨v0,vs0,d0,ds0,p0,q0,hargs,rfl,rfl,h0,r0⟩:=trodAll_cons hA
 obtain⟨rfl,rfl,rfl⟩:=trodAll_nil r0
 obtain rfl:args=#[v0]:=by cases args;simp_all
 obtain⟨rfl,rfl⟩:=trodVars_none hV
 obtain⟨a0,len0,cap0,rfl⟩:=okWide_slice Tryz.underlying22 (hval 0 22 v0 rfl rfl)
 have k0:=h0
 have lt0:∀x∈p0,x.block<W.heap.size:=by obtain⟨m,hm⟩:=k0;exact DataW.trod_lt m _ _ _ hm
 have w0:Eld.Code0 W a0 len0 cap0:=by
  obtain⟨fuel,hf⟩:=h0
  rcases open_ints Tryz.underlying22 Tryz.underlying5 (by kernel_rfl) hf with ⟨hcs,_⟩ | ⟨x,l,c,zs,hcs,_,hl,hm,hz,_,hcell,hwz⟩
  ·simp [Value.cells] at hcs
   obtain⟨rfl,rfl,rfl⟩:=hcs
   exact Eld.code_of_row (zs:=[]) (.inl ⟨rfl,rfl,rfl,rfl⟩)
  ·simp [Value.cells] at hcs
   obtain⟨rfl,rfl,rfl⟩:=hcs
   exact Eld.code_of_row (zs:=zs) (.inr ⟨_,rfl,hl,hm,by simpa using hz,hcell,hwz⟩)
 clear hA0
 refine(walk a0 len0 cap0 W w0).mono fun e W' ⟨he,bel⟩=>?_
 subst he
 exact⟨_,rfl,_,_,_,[],_,[],hW',trodAll_mk1 (shut_bool Tryz.underlying4 _),(trodAll_cons_mk (Below.trod laidOut (by kernel_rfl) (of_decide_eq_true (by kernel_rfl)) k0 bel lt0) trodAll_mk0),rfl,bel.frame _,fun h=>by cases h⟩
theorem laid_met (os:Os):laidMet Tryz.prog Rows.fnWorldCodeRow.laid ((Eld.putAll (World.settled Tryz.prog os).heap.size (World.holding Tryz.prog os ⟨Eld.errBlocks,#[],[]⟩)).forCall (fun _ _=>0) ⟨#[],#[.slice none 0 0],[]⟩).memory :=
 laidMet_of_run' 10 (by kernel_rfl) (by kernel_rfl)
theorem reads (os:Os) {H:Type} (enc:TypeId×Value→H):∃places,DataW.whole enc Tryz.prog ((Eld.putAll (World.settled Tryz.prog os).heap.size (World.holding Tryz.prog os ⟨Eld.errBlocks,#[],[]⟩)).forCall (fun _ _=>0) ⟨#[],#[.slice none 0 0],[]⟩).memory Tryz.f11.params.toList Rows.fnWorldCodeSpec.vars false #[.slice none 0 0].toList 8=some ([.nil],[],places) :=
 ⟨[],by kernel_rfl⟩
set_option maxRecDepth 100000 in
theorem lifted (os:Os) (started:os.Started) (H:Type) (enc:TypeId×Value→H) (F:Stop.Interp) :
  ReturnsInHanded {} Tryz.checked os 11 .any ((OpenSpec.ofChange Rows.fnWorldCodeSpec).preRow enc Tryz.prog Tryz.f11 Rows.fnWorldCodeRow.domain false Rows.fnWorldCodeRow.laid) (((OpenSpec.ofChange Rows.fnWorldCodeSpec).at F).post enc Tryz.prog Tryz.f11 false true false false):=by
 obtain⟨places,hx⟩:=reads os enc
 refine returnsInHanded_of_row (C:=Tryz.checked) (s:=OpenSpec.ofChange Rows.fnWorldCodeSpec) own started (by kernel_rfl) Tryz.func11
  (witness_row_atRef (enc:=enc) (C:=Tryz.checked) false (Eld.putAll (World.settled Tryz.prog os).heap.size (World.holding Tryz.prog os ⟨Eld.errBlocks,#[],[]⟩)) #[.slice none 0 0] rfl (by kernel_rfl) (by kernel_rfl) (by kernel_rfl)
   (OpenSpec.preRow_of_cond 8 hx (by kernel_rfl) (fun k hk=>by cases hk) (by kernel_rfl) (laid_met os))) ?_
 intro W base args ds gs before hval hW _ _ _ hL _ _
 exact contract H enc W base args ds gs before hval hW hL
set_option maxRecDepth 100000 in
theorem said:Rows.FnWorldCodeSaid :=
 OpenClaim.holds_of_cond 11 Tryz.f11 rfl rfl rfl rfl rfl rfl rfl ⟨rfl,rfl,rfl,rfl,rfl⟩ rfl rfl rfl rfl rfl (by kernel_rfl) Tryz.func11 FcFnWorldCode.closed
  (of_decide_eq_true (by kernel_rfl)) (by unfold Func.isWrapper;first | (rw [if_pos (by decide +kernel)];kernel_rfl) | (rw [if_neg (by decide +kernel)];exact⟨rfl,rfl⟩))
  (fun os started H enc _ F=>by rw [OpenClaim.pre_eq_preRow];exact lifted os started H enc F)
theorem plain (f:FuncId) (fn:Func) (hf:Tryz.pinned.checked.prog.funcNamed Rows.fnWorldCodeRow.func=some f) (hfn:Tryz.pinned.checked.prog.funcs[f]?=some fn) :
  true=Tryz.pinned.checked.prog.looks []∧∀(j:Nat) t,fn.params[j]?=some t→Tryz.pinned.checked.prog.wantsStandIn t=false:=by
 obtain rfl:f=11:=Option.some.inj ((show Tryz.prog.funcNamed Rows.fnWorldCodeRow.func=some 11 by kernel_rfl).symm.trans hf) |>.symm
 obtain rfl:fn=Tryz.f11:=(Option.some.inj (Tryz.func11.symm.trans hfn)).symm
 refine⟨by kernel_rfl,fun j t ht=>?_⟩
 rw [Tryz.params11] at ht
 obtain rfl:t=22:=by simpa using Array.mem_of_getElem? ht
 exact(show Tryz.prog.wantsStandIn 22=false by kernel_rfl)
theorem card:Rows.FnWorldCodeCardSaid :=
 Claim7.holds_tied_plain_at .later [] _ _ _ _ said (fun _ h=>by cases h) (by kernel_rfl) (fun _ h=>by cases h) fnWorldCode_row_tie rfl ⟨rfl,rfl⟩ (by kernel_rfl) rfl plain (by kernel_rfl)
end FnWorldCode
theorem fnWorldCode_holds:Rows.FnWorldCodeCardSaid:=FnWorldCode.card
#print axioms fnWorldCode_holds
end Go.Proofs.YtbejochaghmmbaaGreatDoor
