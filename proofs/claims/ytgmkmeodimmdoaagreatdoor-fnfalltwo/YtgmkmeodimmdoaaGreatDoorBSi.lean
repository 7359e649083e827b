import Derived.Test.YtgmkmeodimmdoaaGreatDoorBSh
set_option maxRecDepth 100000
namespace Go.Proofs.YtgmkmeodimmdoaaGreatDoor
open Go.RowKit
set_option maxRecDepth 100000
theorem Ext.nilO {o:Oper} (ho:o.op=.buildSlice 23 0 #[]) {ev:Operand→Value} {h:Hp} {K:Option Value→Hp→Prop} {l:List Atom} (hown:Own h l) (k:∀g h',h.le h'→Own h' (.row (rowO (.slice (some ⟨g,0,none⟩) 0 0) [])::l)→K (some (.slice (some ⟨g,0,none⟩) 0 0)) h'):Ext Tryz.prog (execOp ev o) h K :=
 Ext.buildSlice slOp ho hown [] (fun w=>⟨_,Tryz.zeroValue80 w,by kernel_rfl⟩) [] rfl rfl (by decide) k
theorem Ext.pushOs {o:Oper} {s y:Operand} (ho:o.op=.call { callee:=.builtin .append,args:=#[s,y],argTypes:=#[23,23] }) {ev:Operand→Value} {h:Hp} {K:Option Value→Hp→Prop} {l:List Atom} {tv v:Value} {L M:List OpD}
  (hown:Own h (.row (rowO v L)::l)) (hm:Atom.row (rowO tv M)∈l) (hs:ev s=v) (hy:ev y=tv) (hn:L.length+M.length<1000000) (k:∀a c h',Own h' (.row (rowO (.slice a (L++M).length c) (L++M))::l)→K (some (.slice a (L++M).length c)) h'):Ext Tryz.prog (execOp ev o) h K:=by
 refine Ext.append slOp ho hown rfl rfl hs hy (RowOk.src (r:=rowO tv M) (hown.ok _ (List.mem_cons_of_mem _ hm)) (one_ops M)) (by show (L.length+M.length)*48≤_;omega) (by show L.length+M.length≤_;unfold maxLen;omega) fun v' h' ho1=>?_
 have e:(⟨80,6,v',L.length+M.length,L.flatMap encO++M.flatMap encO⟩:Row)=rowO v' (L++M):=by simp [rowO]
 have ho2:Own h' (.row (rowO v' (L++M))::l):=by rw [←e];exact ho1
 obtain⟨a,c,hv⟩:=RowOk.form' (ho2.ok _ List.mem_cons_self);dsimp only at hv;subst hv;exact k a c h' ho2
theorem Own.in2 {h:Hp} {x y:Atom} {A l:List Atom} (o:Own h (x::y::(A++l))):Own h (A++x::y::l):=by
 refine o.perm ?_;have h1:(A++x::y::l).Perm (x::(A++y::l)):=List.perm_middle;have h2:(A++y::l).Perm (y::(A++l)):=List.perm_middle;exact(h1.trans (h2.cons x)).symm
theorem Own.out2 {h:Hp} {x y:Atom} {A l:List Atom} (o:Own h (A++x::y::l)):Own h (x::y::(A++l)):=by
 refine o.perm ?_;have h1:(A++x::y::l).Perm (x::(A++y::l)):=List.perm_middle;have h2:(A++y::l).Perm (y::(A++l)):=List.perm_middle;exact h1.trans (h2.cons x)
theorem l71Safe_con (c:RdC) (hc:c.Ok) (p:Int) (hp0:0≤p) (hp1:p≤600000) (h:Hp) (l:List Atom) (ho:Own h (c.atoms p++l)) :
  Con Tryz.prog 95 #[.pointer (some ⟨c.R,0,none⟩)] h fun r h'=>∃(C:List OpD) (a:Option Addr) (k:Nat) (p':Int),r=.slice a C.length k∧Eld.SafeOf (C.map OpD.toV) true∧p≤p'∧p'≤p+600∧Own h' (.row (rowO (.slice a C.length k) C)::(c.atoms p'++l)):=by
 refine Con.of_W (tb:=tbE) (args:=[.pointer (some ⟨c.R,0,none⟩)]) Tryz.func95 rfl Tryz.results95 Tryz.ntmps95 (by simp) (Tryz.call95 _) (tm:=[(0,.v (.pointer (some ⟨c.R,0,none⟩)))]) rfl ?_;refine vc_ok ⟨tbE_ok,_,Tryz.func95,Tryz.results95,Tryz.ntmps95⟩ 400 _ _ _ _ ?_;conv=>whnf
 refine W.cut [(0,.v (.pointer (some ⟨c.R,0,none⟩))),(3,.v (.int .i64 (0:Nat)))] [] [] ⟨rfl,rfl,trivial⟩ rfl rfl ⟨_,rfl⟩ ?_;refine W.loop (α:=Nat×Int) (fun x=>[(0,.v (.pointer (some ⟨c.R,0,none⟩))),(3,.v (.int .i64 (x.1:Int)))]) (fun _=>[])
  (fun x h'=>x.1≤3∧p≤x.2∧x.2≤p+160*x.1∧Own h' (c.atoms x.2++l)) (fun x=>3-x.1) ?_ (0,p) h ⟨Nat.zero_le _,by dsimp only;omega,by dsimp only;omega,ho⟩
 rintro⟨i,q⟩ h1 ⟨hi,hq1,hq2,ho1⟩ ih;dsimp only at hi hq1 hq2 ho1 ⊢;refine vc_ok ⟨tbE_ok,_,Tryz.func95,Tryz.results95,Tryz.ntmps95⟩ 400 _ _ _ _ ?_;conv=>whnf
 refine⟨fun h4=>?_,fun h4=>?_⟩<;>conv=>whnf
 ·have hlt:i<3:=by simp at h4;omega
  refine(l71Random_con c hc q (by omega) (by omega) h1 l ho1).mono ?_;rintro r h2 ⟨C,a,k,q2,rfl,hC1,hC2,hq3,hq4,ho2⟩;conv=>whnf
  refine(codeSafe_con a k C (by omega) h2 (ho2.ok _ List.mem_cons_self)).mono ?_;rintro r h3 ⟨⟨b,rfl,hsafe⟩,rfl⟩;conv=>whnf
  refine⟨fun h5=>?_,fun h5=>?_⟩<;>conv=>whnf
  ·subst h5;exact⟨C,a,k,q2,rfl,hsafe,by omega,by omega,ho2⟩
  ·have hw:IntKind.i64.wrap ((i:Int)+1)=((i+1:Nat):Int):=by rw [wrapN _ (by omega) (by omega)];omega
   rw [hw];exact W.back (ih (i+1,q2) h3 ⟨hlt,by dsimp only;omega,by dsimp only;omega,ho2.tail⟩ (by dsimp only;omega)) [] (by exact⟨rfl,rfl,trivial⟩) rfl rfl
 ·clear ih;refine(texts_con h1 _ ho1).mono ?_;rintro r h2 ⟨g,rfl,ho2⟩;conv=>whnf
  refine(of_con c hc q (by omega) (by omega) g h2 l (w_lists ho2)).mono ?_;rintro r h3 ⟨n,hn,rfl,ho3⟩;conv=>whnf
  obtain⟨D,hD,htx,hDs⟩:=texts_safe n hn;refine(codeRead_con (Eld.textsL.getD n []) (by have:=Eld.texts_len n hn;omega) h3 _ (w_row ho3).tail).mono ?_;rintro r h4' ⟨C,a,k,ok,rfl,hread,_,ho4⟩;obtain⟨rfl,rfl⟩:=hread.of_code hD htx;conv=>whnf
  have hsafe:Eld.SafeOf ((C.map OpD.ofV).map OpD.toV) true:=by rw [ofV_toV];exact hDs
  generalize C.map OpD.ofV=L at ho4 hsafe ⊢;refine W.cut [(0,.v (.pointer (some ⟨c.R,0,none⟩))),(5,.v (.slice a L.length k)),(7,.v (.int .i64 (0:Nat)))] [] [] ⟨rfl,rfl,rfl,trivial⟩ rfl rfl ⟨_,rfl⟩ ?_;refine W.loop (α:=Nat×List OpD×Option Addr×Nat×Int) (fun x=>[(0,.v (.pointer (some ⟨c.R,0,none⟩))),(5,.v (.slice x.2.2.1 x.2.1.length x.2.2.2.1)),(7,.v (.int .i64 (x.1:Int)))]) (fun _=>[])
   (fun x h'=>x.1≤4∧Eld.SafeOf (x.2.1.map OpD.toV) true∧p≤x.2.2.2.2∧x.2.2.2.2≤p+500+20*x.1∧Own h' (.row (rowO (.slice x.2.2.1 x.2.1.length x.2.2.2.1) x.2.1)::(c.atoms x.2.2.2.2++l))) (fun x=>4-x.1) ?_ (0,L,a,k,q+1) h4' ⟨Nat.zero_le _,hsafe,by dsimp only;omega,by dsimp only;omega,ho4⟩
  clear ho4 hsafe ho3 ho2 ho1 hD htx hDs hread hn;clear n g;rintro⟨j,M,b,kb,q3⟩ h5 ⟨hj,hM,hq3,hq4,ho5⟩ ih;dsimp only at hj hM hq3 hq4 ho5 ⊢;have hML:=safe_len hM;refine vc_ok ⟨tbE_ok,_,Tryz.func95,Tryz.results95,Tryz.ntmps95⟩ 400 _ _ _ _ ?_;conv=>whnf
  refine⟨fun h6=>?_,fun h6=>?_⟩<;>conv=>whnf
  ·have hlt:j<4:=by simp at h6;omega
   refine Ext.nilO rfl ho5 fun g7 h7 _ ho7=>?_
   conv=>whnf
   refine Ext.pushOs (L:=[]) (M:=M) rfl ho7 List.mem_cons_self rfl rfl (by simp;omega) fun a8 k8 h8 ho8=>?_
   conv=>whnf
   rw [List.nil_append] at ho8 ⊢;refine(pick_con c hc q3 (M.length:Int) (by omega) (by omega) (by omega) (by omega) h8 _ ho8.in2).mono ?_;rintro r h9 ⟨z,rfl,hz0,hz1,ho9⟩;conv=>whnf
   refine(l71Op_con c hc (q3+1) (by omega) (by omega) (M.length:Int) (by omega) (by omega) h9 _ ho9).mono ?_;rintro r h10 ⟨x,q4,rfl,hq5,hq6,ho10⟩;conv=>whnf
   have ho11:=ho10.out2;obtain⟨g8,ha8⟩:=row_some (ho11.ok _ List.mem_cons_self) (by show 0<M.length;omega);subst ha8;refine Ext.index slOp.u slOp.size rfl rfl rfl z.toNat (by omega) (by omega) ?_;conv=>whnf
   refine Ext.storeOp rfl (by omega) rfl x ho11 rfl rfl fun h12 ho12=>?_
   conv=>whnf
   have hlen:M.length=(M.set z.toNat x).length:=by rw [List.length_set]
   have ho13:Own h12 (.row (rowO (.slice (some ⟨g8,0,none⟩) (M.set z.toNat x).length k8) (M.set z.toNat x))::.row (rowO (.slice b M.length kb) M)::(c.atoms q4++l)):=by rw [←hlen];exact ho12
   rw [show Value.slice (some ⟨g8,0,none⟩) M.length k8=.slice (some ⟨g8,0,none⟩) (M.set z.toNat x).length k8 by rw [←hlen]];have hX:(M.set z.toNat x).length≤1000000:=by rw [←hlen];omega
   clear ho12 hlen ho11 ho10 ho9 ho8 ho7 ho5;generalize M.set z.toNat x=X at ho13 hX ⊢;refine(codeSafe_con (some ⟨g8,0,none⟩) k8 X hX h12 (ho13.ok _ List.mem_cons_self)).mono ?_;rintro r h13 ⟨⟨bb,rfl,hsX⟩,rfl⟩;conv=>whnf
   have hw:IntKind.i64.wrap ((j:Int)+1)=((j+1:Nat):Int):=by rw [wrapN _ (by omega) (by omega)];omega
   refine⟨fun h14=>?_,fun h14=>?_⟩<;>conv=>whnf
   ·refine(pick_con c hc q4 2 (by omega) (by omega) (by omega) (by omega) h13 _ ho13.in2).mono ?_;rintro r h15 ⟨y,rfl,_,_,ho15⟩;conv=>whnf
    subst h14;have ho16:=ho15.out2;refine⟨fun _=>?_,fun _=>?_⟩<;>conv=>whnf
    ·rw [hw];exact W.back (ih (j+1,X,some ⟨g8,0,none⟩,k8,q4+1) h15 ⟨hlt,hsX,by dsimp only;omega,by dsimp only;omega,ho16.drop2⟩ (by dsimp only;omega)) [] (by exact⟨rfl,rfl,rfl,trivial⟩) rfl rfl
    ·rw [hw];exact W.back (ih (j+1,M,b,kb,q4+1) h15 ⟨hlt,hM,by dsimp only;omega,by dsimp only;omega,ho16.tail⟩ (by dsimp only;omega)) [] (by exact⟨rfl,rfl,rfl,trivial⟩) rfl rfl
   ·rw [hw];exact W.back (ih (j+1,M,b,kb,q4) h13 ⟨hlt,hM,by dsimp only;omega,by dsimp only;omega,ho13.tail⟩ (by dsimp only;omega)) [] (by exact⟨rfl,rfl,rfl,trivial⟩) rfl rfl
  ·exact⟨M,b,kb,q3,rfl,hM,by omega,by omega,ho5⟩
def freshP (C:List OpD):PW:=⟨C,[newD 1 0 (3,1)],[1],0,0,0,0⟩
abbrev zeroW:List Value:=[.slice none 0 0,.slice none 0 0,.slice none 0 0,.int .i64 0,.int .i64 0,.int .i64 0,.int .i64 0]
theorem worldNew_con (C:List OpD) (a:Option Addr) (k:Nat) (hC:C.length≤1000) (h:Hp) (l:List Atom) (ho:Own h (.row (rowO (.slice a C.length k) C)::l)) :
  Con Tryz.prog 96 #[.slice a C.length k] h fun r h'=>∃b,Eld.SafeOf (C.map OpD.toV) b∧((b=false∧r=.tuple #[.agg zeroW.toArray,.bool false]∧h'=h) ∨
   (b=true∧∃D,r=.tuple #[D.val,.bool true]∧D.pure=freshP C∧Own h' (wAtoms D++.row (rowO (.slice a C.length k) C)::l))):=by
 refine Con.of_W (tb:=tbE) (args:=[.slice a C.length k]) Tryz.func96 rfl Tryz.results96 Tryz.ntmps96 (by simp) (Tryz.call96 _) (tm:=[(0,.v (.slice a C.length k))]) rfl ?_;refine vc_ok ⟨tbE_ok,_,Tryz.func96,Tryz.results96,Tryz.ntmps96⟩ 400 _ _ _ _ ?_;conv=>whnf
 refine(codeSafe_con a k C (by omega) h (ho.ok _ List.mem_cons_self)).mono ?_;rintro r h1 ⟨⟨b,rfl,hsafe⟩,rfl⟩;conv=>whnf
 refine⟨fun h2=>?_,fun h2=>?_⟩<;>conv=>whnf
 ·have hb:b=false:=by simpa using h2
  subst hb;exact⟨false,hsafe,.inl ⟨rfl,rfl,rfl⟩⟩
 ·have hb:b=true:=by simpa using h2
  subst hb;refine Ext.nilO rfl ho fun g3 h3 _ ho3=>?_
  conv=>whnf
  refine Ext.pushOs (L:=[]) (M:=C) rfl ho3 List.mem_cons_self rfl rfl (by simp;omega) fun ca ck h4 ho4=>?_
  conv=>whnf
  rw [List.nil_append] at ho4 ⊢;refine(l11New_con 1 0 (3,1) h4 _ ho4).mono ?_;rintro r h5 ⟨p,rfl,ho5,_⟩;conv=>whnf
  refine Ext.litR rfl ho5 (newD 1 0 (3,1),p) rfl fun g6 h6 _ ho6=>?_
  conv=>whnf
  refine Ext.litI rfl ho6 1 rfl fun g7 h7 _ ho7=>?_
  conv=>whnf
  refine⟨true,hsafe,.inr ⟨rfl,⟨C,[(newD 1 0 (3,1),p)],[1],0,0,0,0,ca,ck,some ⟨g6,0,none⟩,1,some ⟨g7,0,none⟩,1⟩,rfl,rfl,?_⟩⟩;refine ho7.perm ?_;exact(List.Perm.swap _ _ _).trans (((List.perm_middle (l₁:=runRows (newD 1 0 (3,1),p))).cons _).cons _)
theorem fresh_inv {C:List OpD} {R:Nat→Prop} (c:CodeR C R) (h0:R 0):(freshP C).Inv 0 R:=by
 obtain⟨hl,_⟩:=c.ok 0 h0;have one:∀{P:RunD→Prop},P (newD 1 0 (3,1))→∀d∈(freshP C).runs,P d:=fun hp d hd=>by rw [List.mem_singleton.1 hd];exact hp
 refine⟨⟨by show 1≤6;decide,by show [(1:Int)].Nodup;simp,fun x hx=>⟨0,?_,_,rfl,rfl⟩,one ⟨0,rfl,hl⟩,one rfl,one (Nat.zero_le _),one (Nat.le_refl _),one (Nat.le_refl _),one (fun x hx=>by cases hx)⟩,one (newD_ok 1 0 (3,1) ⟨0,rfl,h0⟩ rfl)⟩;rw [List.mem_singleton.1 hx];rfl
def PlayF:PW→List EvD→PW→Prop
 |w,[],w'=>w'=w
 |w,e::es,w'=>∃w1,eventR w e w1∧PlayF w1 es w'
def PlayR (C:List OpD) (es:List EvD) (w:PW):Prop:=PlayF (freshP C) es w
theorem PlayF.app:∀{es fs:List EvD} {w w1 w':PW},PlayF w es w1→PlayF w1 fs w'→PlayF w (es++fs) w'
 |[],_,_,_,_,h,k=>by have e:=h;rw [show _=_ from e] at k;exact k
 |_::_,_,_,_,_,⟨w2,h1,h2⟩,k=>⟨w2,h1,PlayF.app h2 k⟩
theorem PlayR.nil {C:List OpD}:PlayR C [] (freshP C):=rfl
theorem PlayR.snoc {C:List OpD} {es:List EvD} {w w':PW} {e:EvD} (h:PlayR C es w) (k:eventR w e w'):PlayR C (es++[e]) w':=PlayF.app h ⟨w',k,rfl⟩
theorem PlayF.keep {I:List EvD→PW→Prop} (step:∀es w e w',I es w→eventR w e w'→I (es++[e]) w'):∀{es fs:List EvD} {w w':PW},I fs w→PlayF w es w'→I (fs++es) w'
 |[],fs,_,_,hi,h=>by rw [show _=_ from h,List.append_nil];exact hi
 |e::es,fs,_,_,hi,⟨w1,h1,h2⟩=>by
  have:=PlayF.keep step (es:=es) (step _ _ _ _ hi h1) h2
  rwa [List.append_assoc] at this
theorem PlayR.keep {C:List OpD} {I:List EvD→PW→Prop} (base:I [] (freshP C)) (step:∀es w e w',I es w→eventR w e w'→I (es++[e]) w') {es:List EvD} {w:PW} (h:PlayR C es w):I es w:=PlayF.keep step (fs:=[]) base h
theorem PlayR.inv {C:List OpD} {R:Nat→Prop} (c:CodeR C R) (h0:R 0) (hC:C.length≤1000) {es:List EvD} {w:PW} (h:PlayR C es w):w.Inv (3*es.length) R∧w.code=C∧1≤w.runs.length:=by
 refine PlayR.keep (I:=fun es w=>w.Inv (3*es.length) R∧w.code=C∧1≤w.runs.length) ⟨fresh_inv c h0,rfl,Nat.le_refl _⟩ (fun es w e w' ⟨i1,i2,i3⟩ h2=>?_) h;have:=eventR_inv h2 _ i1 (by rw [i2];exact c) (by rw [i2];exact hC);rw [List.length_append];exact⟨this.1,this.2.1.trans i2,Nat.le_trans i3 this.2.2⟩
theorem perm_of {L M:List Atom} (h:∀[DecidableEq Atom] (a:Atom),List.count a L=List.count a M):L.Perm M:=by
 classical
 exact List.perm_iff_count.2 fun a=>h a
theorem l72Event_con (c:RdC) (hc:c.Ok) (D:WD) (hn1:1≤D.runs.length) (hn2:D.runs.length≤6) (p:Int) (hp0:0≤p) (hp1:p≤800000) (h:Hp) (l:List Atom) (ho:Own h (c.atoms p++l)) :
  Con Tryz.prog 97 #[.pointer (some ⟨c.R,0,none⟩),D.val] h fun r h'=>∃(e:EvD) (p':Int),r=e.val∧p≤p'∧p'≤p+8∧Own h' (c.atoms p'++l):=by
 have hwn:IntKind.i64.wrap ((D.runs.length:Int)+1)=(D.runs.length:Int)+1:=wrapN _ (by omega) (by omega);refine Con.of_W (tb:=tbE) (args:=[.pointer (some ⟨c.R,0,none⟩),D.val]) Tryz.func97 rfl Tryz.results97 Tryz.ntmps97 (by simp) (Tryz.call97 _) (tm:=[(0,.v (.pointer (some ⟨c.R,0,none⟩))),(1,.a D.cells)]) rfl ?_;refine vc_ok ⟨tbE_ok,_,Tryz.func97,Tryz.results97,Tryz.ntmps97⟩ 400 _ _ _ _ ?_;conv=>whnf
 refine(pick_con c hc p 14 hp0 (by omega) (by omega) (by omega) h l ho).mono ?_;rintro r h1 ⟨k,rfl,hk0,hk1,ho1⟩;conv=>whnf
 refine⟨fun _=>?_,fun _=>?_⟩<;>conv=>whnf
 ·exact⟨⟨2,0,0,0⟩,p+1,rfl,by omega,by omega,ho1⟩
 ·refine⟨fun _=>?_,fun _=>?_⟩<;>conv=>whnf
  ·exact⟨⟨2,0,0,0⟩,p+1,rfl,by omega,by omega,ho1⟩
  ·refine⟨fun _=>?_,fun _=>?_⟩<;>conv=>whnf
   ·refine(pick_con c hc (p+1) (D.runs.length:Int) (by omega) (by omega) (by omega) (by omega) h1 l ho1).mono ?_;rintro r ha ⟨ka,rfl,_,_,oa⟩;conv=>whnf
    refine(l71Good_con c hc (p+1+1) (by omega) (by omega) ha l oa).mono ?_;rintro r hg ⟨v,p2,rfl,_,hp2,hp3,og⟩;conv=>whnf
    exact⟨⟨3,IntKind.i64.wrap (1+ka),v.1,v.2⟩,p2,rfl,by omega,by omega,og⟩
   ·refine⟨fun _=>?_,fun _=>?_⟩<;>conv=>whnf
    ·refine(pick_con c hc (p+1) (D.runs.length:Int) (by omega) (by omega) (by omega) (by omega) h1 l ho1).mono ?_;rintro r ha ⟨ka,rfl,_,_,oa⟩;conv=>whnf
     refine(l71Good_con c hc (p+1+1) (by omega) (by omega) ha l oa).mono ?_;rintro r hg ⟨v,p2,rfl,_,hp2,hp3,og⟩;conv=>whnf
     exact⟨⟨3,IntKind.i64.wrap (1+ka),v.1,v.2⟩,p2,rfl,by omega,by omega,og⟩
    ·refine⟨fun _=>?_,fun _=>?_⟩<;>conv=>whnf
     ·refine(pick_con c hc (p+1) 3 (by omega) (by omega) (by omega) (by omega) h1 l ho1).mono ?_;rintro r hb ⟨kb,rfl,_,_,ob⟩;conv=>whnf
      refine⟨fun _=>?_,fun _=>?_⟩<;>conv=>whnf
      ·refine(pick_con c hc (p+1+1) (D.runs.length:Int) (by omega) (by omega) (by omega) (by omega) hb l ob).mono ?_;rintro r hc2 ⟨kc2,rfl,_,_,oc2⟩;conv=>whnf
       refine(pick_con c hc (p+1+1+1) 3 (by omega) (by omega) (by omega) (by omega) hc2 l oc2).mono ?_;rintro r hd ⟨kd,rfl,_,_,od⟩;conv=>whnf
       exact⟨⟨4,IntKind.i64.wrap (1+kc2),2,kd⟩,p+1+1+1+1,rfl,by omega,by omega,od⟩
      ·exact⟨⟨1,0,0,0⟩,p+1+1,rfl,by omega,by omega,ob⟩
     ·refine⟨fun _=>?_,fun _=>?_⟩<;>conv=>whnf
      ·rw [hwn];refine(pick_con c hc (p+1) ((D.runs.length:Int)+1) (by omega) (by omega) (by omega) (by omega) h1 l ho1).mono ?_;rintro r he ⟨ke,rfl,_,_,oe⟩;conv=>whnf
       refine(pick_con c hc (p+1+1) 5 (by omega) (by omega) (by omega) (by omega) he l oe).mono ?_;rintro r hf ⟨kf,rfl,_,_,of_⟩;conv=>whnf
       exact⟨⟨3,IntKind.i64.wrap (1+ke),1,kf⟩,p+1+1+1,rfl,by omega,by omega,of_⟩
      ·exact⟨⟨1,0,0,0⟩,p+1,rfl,by omega,by omega,ho1⟩
def encE (x:EvD):List Value:=x.cells
abbrev rowE (v:Value) (L:List EvD):Row:=⟨117,4,v,L.length,L.flatMap encE⟩
theorem slEv:SlTy Tryz.prog 74 117 4 32:=⟨Tryz.underlying74,⟨_,_,Tryz.type117,rfl,rfl,rfl,rfl⟩,by decide⟩
theorem Ext.litE {o:Oper} {y:Operand} (ho:o.op=.buildSlice 74 1 #[(0,y)]) {ev:Operand→Value} {h:Hp} {K:Option Value→Hp→Prop} {l:List Atom} (hown:Own h l) (x:EvD) (hy:ev y=x.val) (k:∀g h',h.le h'→Own h' (.row ⟨117,4,.slice (some ⟨g,0,none⟩) 1 1,1,encE x⟩::l)→K (some (.slice (some ⟨g,0,none⟩) 1 1)) h'):Ext Tryz.prog (execOp ev o) h K :=
 Ext.buildSlice slEv ho hown [.int .i64 0,.int .i64 0,.int .i64 0,.int .i64 0] (fun w=>⟨_,Tryz.zeroValue117 w,by kernel_rfl⟩) (encE x) (by simp [hy];rfl) rfl (by decide) k
theorem one_ev (x:EvD):∀u∈encE x,u.oneCell'=true:=by simp [encE,Value.oneCell']
theorem Ext.pushE {o:Oper} {s y:Operand} (ho:o.op=.call { callee:=.builtin .append,args:=#[s,y],argTypes:=#[74,74] }) {ev:Operand→Value} {h:Hp} {K:Option Value→Hp→Prop} {l:List Atom} {tv v:Value} {x:EvD} {L:List EvD}
  (hown:Own h (.row ⟨117,4,tv,1,encE x⟩::.row (rowE v L)::l)) (hs:ev s=v) (hy:ev y=tv) (hn:L.length<1000000) (k:∀a c h',Own h' (.row (rowE (.slice a (L++[x]).length c) (L++[x]))::l)→K (some (.slice a (L++[x]).length c)) h'):Ext Tryz.prog (execOp ev o) h K:=by
 refine Ext.append slEv ho hown.swap rfl rfl hs hy (RowOk.src (hown.ok _ List.mem_cons_self) (one_ev x)) (by show (L.length+1)*32≤_;omega) (by show L.length+1≤_;unfold maxLen;omega) fun v' h' ho1=>?_
 have e:(⟨117,4,v',L.length+1,L.flatMap encE++encE x⟩:Row)=rowE v' (L++[x]):=by simp [rowE]
 have ho2:Own h' (.row (rowE v' (L++[x]))::l):=by rw [←e];exact ho1.drop2
 obtain⟨a,c,hv⟩:=RowOk.form' (ho2.ok _ List.mem_cons_self);dsimp only at hv;subst hv;exact k a c h' ho2
theorem l72Play_con (c:RdC) (hc:c.Ok) (p:Int) (hp0:0≤p) (hp1:p≤500000) (h:Hp) (l:List Atom) (ho:Own h (c.atoms p++l)) :
  Con Tryz.prog 67 #[.pointer (some ⟨c.R,0,none⟩)] h fun r h'=>∃(C:List OpD) (ca:Option Addr) (ck:Nat) (es:List EvD) (ea:Option Addr) (ek:Nat) (D:WD) (p':Int),
   r=.tuple #[.slice ca C.length ck,.slice ea es.length ek,D.val]∧Eld.SafeOf (C.map OpD.toV) true∧PlayR C es D.pure∧es.length≤45∧p≤p'∧p'≤p+1000 ∧
   Own h' (.row (rowO (.slice ca C.length ck) C)::.row (rowE (.slice ea es.length ek) es)::(wAtoms D++(c.atoms p'++l))):=by
 refine Con.of_W (tb:=tbE) (args:=[.pointer (some ⟨c.R,0,none⟩)]) Tryz.func67 rfl Tryz.results67 Tryz.ntmps67 (by simp) (Tryz.call67 _) (tm:=[(0,.v (.pointer (some ⟨c.R,0,none⟩)))]) rfl ?_;refine vc_ok ⟨tbE_ok,_,Tryz.func67,Tryz.results67,Tryz.ntmps67⟩ 400 _ _ _ _ ?_;conv=>whnf
 refine(l71Safe_con c hc p hp0 (by omega) h l ho).mono ?_;rintro r h1 ⟨C,ca,ck,q,rfl,hsafe,hq1,hq2,ho1⟩;conv=>whnf
 have hlen:=safe_len hsafe;refine(worldNew_con C ca ck (by omega) h1 _ ho1).mono ?_;rintro r h2 ⟨b,hb,⟨rfl,_,_⟩|⟨rfl,D,rfl,hD,ho2⟩⟩
 ·exact absurd (Eld.safeOf_one hsafe hb) (by decide)
 obtain⟨V,hV,hcr,hc0⟩:=safe_code hsafe;conv=>whnf
 refine Ext.buildSlice slEv rfl ho2 [] (fun w=>⟨_,Tryz.zeroValue117 w,by kernel_rfl⟩) [] rfl rfl (by decide) fun g3 h3 _ ho3=>?_
 conv=>whnf
 have ho4:Own h3 (c.atoms q++.row (rowE (.slice (some ⟨g3,0,none⟩) 0 0) [])::(wAtoms D++.row (rowO (.slice ca C.length ck) C)::l)):=by
  refine Own.perm (l:=.row (rowE (.slice (some ⟨g3,0,none⟩) 0 0) [])::(wAtoms D++.row (rowO (.slice ca C.length ck) C)::(c.atoms q++l))) ho3 (perm_of fun x=>by simp only [List.count_append,List.count_cons];omega)
 refine(pick_con c hc q 45 (by omega) (by omega) (by omega) (by omega) h3 _ ho4).mono ?_;rintro r h5 ⟨n,rfl,hn0,hn1,ho5⟩;conv=>whnf
 obtain⟨m,rfl⟩:∃m:Nat,n=(m:Int):=⟨n.toNat,by omega⟩;have hm:m≤44:=by omega
 refine W.cut [(0,.v (.pointer (some ⟨c.R,0,none⟩))),(4,.p 0 0),(5,.v (.slice ca C.length ck)),(6,.p 1 0),(8,.v (.slice (some ⟨g3,0,none⟩) 0 0)),(9,.v (.int .i64 (m:Int)))] [⟨27,zeroW⟩,⟨27,D.cells⟩] [] ⟨rfl,rfl,rfl,rfl,rfl,rfl,trivial⟩ (List.append_nil _).symm rfl ⟨_,rfl⟩ ?_;refine W.loop (α:=Nat×List EvD×Option Addr×Nat×WD×Int) (fun x=>[(0,.v (.pointer (some ⟨c.R,0,none⟩))),(4,.p 0 0),(5,.v (.slice ca C.length ck)),(6,.p 1 0),(8,.v (.slice x.2.2.1 x.2.1.length x.2.2.2.1)),(9,.v (.int .i64 ((x.1:Nat):Int)))]) (fun x=>[⟨27,zeroW⟩,⟨27,x.2.2.2.2.1.cells⟩])
  (fun x h'=>x.1+x.2.1.length=m∧PlayR C x.2.1 x.2.2.2.2.1.pure∧p≤x.2.2.2.2.2∧x.2.2.2.2.2≤p+601+8*x.2.1.length∧Own h' (c.atoms x.2.2.2.2.2++.row (rowE (.slice x.2.2.1 x.2.1.length x.2.2.2.1) x.2.1)::(wAtoms x.2.2.2.2.1++.row (rowO (.slice ca C.length ck) C)::l))) (fun x=>x.1) ?_ (m,[],some ⟨g3,0,none⟩,0,D,q+1) h5 ⟨rfl,by dsimp only;rw [hD];exact .nil,by dsimp only;omega,by dsimp only [List.length_nil];omega,ho5⟩
 clear ho5 ho4 ho3 ho2 ho1 hD;clear D g3;rintro⟨i,es,ea,ek,D,q5⟩ h6 ⟨hi,hP,hq3,hq4,ho6⟩ ih;dsimp only at hi hP hq3 hq4 ho6 ⊢;obtain⟨hinv,hcode,hrun⟩:=hP.inv hcr hc0 (by omega);have hcode':D.code=C:=hcode;rw [pure_len] at hrun;have hn6:D.runs.length≤6:=by have:=hinv.wk.runs;rw [pure_len] at this;exact this
 refine vc_ok ⟨tbE_ok,_,Tryz.func67,Tryz.results67,Tryz.ntmps67⟩ 400 _ _ _ _ ?_;conv=>whnf
 refine⟨fun h7=>?_,fun h7=>?_⟩<;>conv=>whnf
 ·have hpos:0<i:=by simp at h7;omega
  refine(l72Event_con c hc D hrun hn6 q5 (by omega) (by omega) h6 _ ho6).mono ?_;rintro r h8 ⟨e,q6,rfl,hq5,hq6,ho8⟩;conv=>whnf
  refine Ext.litE rfl ho8 e rfl fun g9 h9 _ ho9=>?_
  conv=>whnf
  have ho9':Own h9 (.row ⟨117,4,.slice (some ⟨g9,0,none⟩) 1 1,1,encE e⟩::.row (rowE (.slice ea es.length ek) es)::(c.atoms q6++(wAtoms D++.row (rowO (.slice ca C.length ck) C)::l))):=ho9.perm (perm_of fun x=>by simp only [List.count_append,List.count_cons];omega);refine Ext.pushE rfl ho9' rfl rfl (by omega) fun ea2 ek2 h10 ho10=>?_
  conv=>whnf
  refine(l22Do_con D (3*es.length) (by omega) _ hinv (by rw [hcode'];exact hcr) (by rw [hcode'];omega) e h10 (.row (rowE (.slice ea2 (es++[e]).length ek2) (es++[e]))::(c.atoms q6++.row (rowO (.slice ca C.length ck) C)::l)) (ho10.perm (perm_of fun x=>by simp only [List.count_append,List.count_cons];omega))).mono ?_;rintro r h11 ⟨D2,rfl,ho11,hR⟩;conv=>whnf
  have hw:IntKind.i64.wrap ((i:Int)-1)=((i-1:Nat):Int):=by rw [wrapN _ (by omega) (by omega)];omega
  rw [hw];refine W.back (ih (i-1,es++[e],ea2,ek2,D2,q6) h11 ⟨by rw [List.length_append];simp;omega,.snoc hP hR,by dsimp only;omega,by dsimp only;rw [List.length_append];simp;omega,ho11.perm (perm_of fun x=>by simp only [List.count_append,List.count_cons];omega)⟩ (by dsimp only;omega)) [⟨117,e.cells⟩] (by exact⟨rfl,rfl,rfl,rfl,rfl,rfl,trivial⟩) rfl rfl
 ·have h0:i=0:=by simp at h7;omega
  subst h0;refine W.draw [(0,true),(1,true),(2,true),(3,true),(4,true),(5,false)] [1] none 99 (by kernel_rfl) rfl (by kernel_rfl) mixed rfl (fun g e=>by cases e) ?_;refine vc_ok ⟨tbE_ok,_,Tryz.func67,Tryz.results67,Tryz.ntmps67⟩ 400 _ _ _ _ ?_;conv=>whnf
  exact⟨C,ca,ck,es,ea,ek,D,q5,rfl,hsafe,hP,by omega,by omega,by omega,ho6.perm (perm_of fun x=>by simp only [List.count_append,List.count_cons];omega)⟩
def SpoilR (w d:PW):Prop :=
 d=w∨d={ w with queue:=w.queue++[1] }∨d={ w with sent:=wr (w.sent+1) } ∨
 (∃x k,w.runs[0]?=some x∧1≤k∧k≤3∧d={ w with runs:=w.runs.set 0 { x with st:=k } }) ∨
 (∃x,w.runs[0]?=some x∧d={ w with runs:=w.runs.set 0 { x with links:=[2] } }) ∨
 (∃C:List OpD,3≤C.length∧C.length≤10∧d={ w with code:=C })
def DrawnW (d:PW):Prop:=∃C es w,Eld.SafeOf (C.map OpD.toV) true∧PlayR C es w∧es.length≤45∧SpoilR w d
theorem l72World_con (c:RdC) (hc:c.Ok) (p:Int) (hp0:0≤p) (hp1:p≤450000) (h:Hp) (l:List Atom) (ho:Own h (c.atoms p++l)) :
  Con Tryz.prog 36 #[.pointer (some ⟨c.R,0,none⟩)] h fun r h'=>∃(D:WD) (p':Int),r=D.val∧DrawnW D.pure∧p≤p'∧p'≤p+1200∧Own h' (c.atoms p'++(wAtoms D++l)):=by
 refine Con.of_W (tb:=tbE) (args:=[.pointer (some ⟨c.R,0,none⟩)]) Tryz.func36 rfl Tryz.results36 Tryz.ntmps36 (by simp) (Tryz.call36 _) (tm:=[(0,.v (.pointer (some ⟨c.R,0,none⟩)))]) rfl ?_;refine vc_ok ⟨tbE_ok,_,Tryz.func36,Tryz.results36,Tryz.ntmps36⟩ 400 _ _ _ _ ?_;conv=>whnf
 refine(l72Play_con c hc p hp0 (by omega) h l ho).mono ?_;rintro r h1 ⟨C,ca,ck,es,ea,ek,D,q,rfl,hsafe,hP,hes,hq1,hq2,ho1⟩;have ho2:Own h1 (c.atoms q++(wAtoms D++l)):=ho1.tail.tail.perm (perm_of fun x=>by simp only [List.count_append];omega);clear ho1;obtain⟨V,hV,hcr,hc0⟩:=safe_code hsafe;have hlen:=safe_len hsafe;obtain⟨hinv,hcode,hrun⟩:=hP.inv hcr hc0 (by omega);rw [pure_len] at hrun;have hn6:D.runs.length≤6:=by have:=hinv.wk.runs;rw [pure_len] at this;exact this
 have hQ:D.queue.length≤6:=hinv.wk.queue;have hx:D.pure.runs[0]?=some D.runs[0].1:=by rw [List.getElem?_eq_getElem (by rw [pure_len];omega),pure_get D 0 (by omega)]
 have fin:∀d,SpoilR D.pure d→DrawnW d:=fun d hd=>⟨C,es,D.pure,hsafe,hP,hes,hd⟩
 conv=>whnf
 refine(pick_con c hc q 40 (by omega) (by omega) (by omega) (by omega) h1 _ ho2).mono ?_;rintro r h3 ⟨k,rfl,_,_,ho3⟩;have ho4:Own h3 (wAtoms D++(c.atoms (q+1)++l)):=ho3.perm (perm_of fun x=>by simp only [List.count_append];omega);obtain⟨g,hra⟩:=w_ra ho4 (by omega);conv=>whnf
 refine⟨fun _=>?_,fun _=>?_⟩<;>conv=>whnf
 ·
  refine Ext.litI rfl ho4 1 rfl fun g5 h5 _ ho5=>?_
  conv=>whnf
  refine Ext.pushI (L:=D.queue) (l:=.row (rowR D.rv D.runs)::.row (rowO D.cv D.code)::(D.runs.flatMap runRows++(c.atoms (q+1)++l))) rfl (ho5.perm (List.Perm.cons _ (List.Perm.swap _ _ _))) rfl rfl (by omega) fun qa qk h6 ho6=>?_
  conv=>whnf
  refine⟨D.setQ (D.queue++[1]) qa qk,q+1,rfl,fin _ (.inr (.inl rfl)),by omega,by omega,?_⟩;exact(q_shut (D:=D) _ qa qk ho6).perm (perm_of fun x=>by simp only [List.count_append];omega)
 ·refine⟨fun _=>?_,fun _=>?_⟩<;>conv=>whnf
  ·exact⟨{ D with sent:=wr (D.sent+1) },q+1,rfl,fin _ (.inr (.inr (.inl rfl))),by omega,by omega,ho3⟩
  ·refine⟨fun _=>?_,fun _=>?_⟩<;>conv=>whnf
   ·
    refine W.draw [(0,true),(1,true),(2,true),(3,false),(4,true),(5,true),(6,true),(7,false)] [1] none 99 (by kernel_rfl) rfl (by kernel_rfl) mixed rfl (fun g e=>by cases e) ?_;refine vc_ok ⟨tbE_ok,_,Tryz.func36,Tryz.results36,Tryz.ntmps36⟩ 400 _ _ _ _ ?_;conv=>whnf
    refine(pick_con c hc (q+1) 3 (by omega) (by omega) (by omega) (by omega) h3 _ ho3).mono ?_;rintro r h5 ⟨k5,rfl,hk0,hk1,ho5⟩;have ho6:Own h5 (wAtoms D++(c.atoms (q+1+1)++l)):=ho5.perm (perm_of fun x=>by simp only [List.count_append];omega);conv=>whnf
    refine Rd.index slRun.u slRun.size rfl (by exact rv_same hra) rfl 0 rfl (by omega) ?_;conv=>whnf
    have hkw:IntKind.i64.wrap (1+k5)=1+k5:=wrapN _ (by omega) (by omega);rw [hkw];refine Ext.storeRunCell (D:=D) (i:=0) rfl rfl rfl (by omega) (rv_same hra) 5 (by decide) (.int .i64 (1+k5)) rfl rfl ({ D.runs[0].1 with st:=1+k5 },D.runs[0].2) rfl rfl (w_open ho6 0 (by omega)) rfl rfl fun h7 ho7=>?_
    conv=>whnf
    refine⟨D.setRun 0 ({ D.runs[0].1 with st:=1+k5 },D.runs[0].2),q+1+1,(w_val _ _ _).symm,fin _ (.inr (.inr (.inr (.inl ⟨_,1+k5,hx,by omega,by omega,?_⟩)))),by omega,by omega,ho7.perm (perm_of fun x=>by simp only [List.count_append];omega)⟩;simp [WD.pure,List.map_set]
   ·refine⟨fun _=>?_,fun _=>?_⟩<;>conv=>whnf
    ·
     refine Ext.litI rfl ho4 2 rfl fun g5 h5 _ ho5=>?_
     conv=>whnf
     refine Ext.index slRun.u slRun.size rfl (by exact rv_same hra) rfl 0 rfl (by omega) ?_;conv=>whnf
     have ho5':Own h5 (.row (rowI (.slice (some ⟨g5,0,none⟩) [2].length 1) [2])::(wAtoms D++(c.atoms (q+1)++l))):=ho5;have ho6:=w_open (W:=D) (l:=.row (rowI (.slice (some ⟨g5,0,none⟩) [2].length 1) [2])::(c.atoms (q+1)++l)) (ho5'.perm (perm_of fun x=>by simp only [List.count_append,List.count_cons];omega)) 0 (by omega);have ho7:Own h5 (.row (rowR D.rv D.runs)::(runRows ({ D.runs[0].1 with links:=[2] },{ D.runs[0].2 with a2:=some ⟨g5,0,none⟩,k2:=1 })++wOth D 0 (c.atoms (q+1)++l))):=by
      refine Own.tail (x:=atL D.runs[0]) (ho6.perm (perm_of fun x=>?_));simp only [runRows,wOth,atL,List.count_append,List.count_cons,List.count_nil];omega
     refine Ext.storeRunCell (D:=D) (i:=0) rfl rfl rfl (by omega) (rv_same hra) 7 (by decide) (.slice (some ⟨g5,0,none⟩) 1 1) rfl rfl ({ D.runs[0].1 with links:=[2] },{ D.runs[0].2 with a2:=some ⟨g5,0,none⟩,k2:=1 }) rfl rfl ho7 rfl rfl fun h8 ho8=>?_
     conv=>whnf
     refine⟨D.setRun 0 ({ D.runs[0].1 with links:=[2] },{ D.runs[0].2 with a2:=some ⟨g5,0,none⟩,k2:=1 }),q+1,(w_val _ _ _).symm,fin _ (.inr (.inr (.inr (.inr (.inl ⟨_,hx,?_⟩))))),by omega,by omega,ho8.perm (perm_of fun x=>by simp only [List.count_append];omega)⟩;simp [WD.pure,List.map_set]
    ·refine⟨fun _=>?_,fun _=>?_⟩<;>conv=>whnf
     ·refine(l71Random_con c hc (q+1) (by omega) (by omega) h3 _ ho3).mono ?_;rintro r h5 ⟨C5,a5,k5,q5,rfl,hc51,hc52,hq5,hq6,ho5⟩;conv=>whnf
      refine⟨{ D with code:=C5,ca:=a5,ck:=k5 },q5,rfl,fin _ (.inr (.inr (.inr (.inr (.inr ⟨C5,hc51,hc52,rfl⟩))))),by omega,by omega,?_⟩;refine Own.tail (x:=.row (rowO D.cv D.code)) (ho5.perm (perm_of fun x=>?_));simp only [wAtoms,WD.cv,WD.rv,WD.qv,List.count_append,List.count_cons];omega
     ·exact⟨D,q+1,rfl,fin _ (.inl rfl),by omega,by omega,ho3⟩
theorem DrawnW.facts {d:PW} (h:DrawnW d):1≤d.runs.length∧d.runs.length≤6∧(∀x∈d.runs,x.slots.length=4∧x.mail.length≤12∧x.links.length≤140∧x.wat.length≤140)∧d.queue.length≤7∧1≤d.code.length∧d.code.length≤16:=by
 obtain⟨C,es,w,hsafe,hP,hes,hs⟩:=h;obtain⟨V,hV,hcr,hc0⟩:=safe_code hsafe;have hlen:=safe_len hsafe;obtain⟨hinv,hcode,hrun⟩:=hP.inv hcr hc0 (by omega);have hq:=hinv.wk.queue;have h6:=hinv.wk.runs;have key:∀x∈w.runs,x.slots.length=4∧x.mail.length≤12∧x.links.length≤140∧x.wat.length≤140:=fun x hx=>by
  have h1:=hinv.wk.slots x hx;have h2:=hinv.wk.mail x hx;have h3:=hinv.wk.linksB x hx;have h4:=hinv.wk.watB x hx;omega
 have hwc:w.code.length=C.length:=by rw [hcode]
 rcases hs with rfl|rfl|rfl|⟨x,k,hx,_,_,rfl⟩|⟨x,hx,rfl⟩|⟨C',h1,h2,rfl⟩
 ·exact⟨hrun,h6,key,by omega,by omega,by omega⟩
 ·exact⟨hrun,h6,key,by rw [List.length_append];simp;omega,by show 1≤w.code.length;omega,by show w.code.length≤16;omega⟩
 ·exact⟨hrun,h6,key,by show w.queue.length≤7;omega,by show 1≤w.code.length;omega,by show w.code.length≤16;omega⟩
 ·refine⟨by rw [List.length_set];exact hrun,by rw [List.length_set];exact h6,fun y hy=>?_,by show w.queue.length≤7;omega,by show 1≤w.code.length;omega,by show w.code.length≤16;omega⟩;rcases mem_set' hy with rfl|hy
  ·exact key x (List.mem_of_getElem? hx)
  ·exact key y hy
 ·refine⟨by rw [List.length_set];exact hrun,by rw [List.length_set];exact h6,fun y hy=>?_,by show w.queue.length≤7;omega,by show 1≤w.code.length;omega,by show w.code.length≤16;omega⟩;rcases mem_set' hy with rfl|hy
  ·have:=key x (List.mem_of_getElem? hx);exact⟨this.1,this.2.1,by show 1≤140;omega,this.2.2.2⟩
  ·exact key y hy
 ·exact⟨hrun,h6,key,by show w.queue.length≤7;omega,by show 1≤C'.length;omega,by show C'.length≤16;omega⟩
end Go.Proofs.YtgmkmeodimmdoaaGreatDoor
