import Derived.Test.YtgmkmeodimmdoaaGreatDoorBSn
namespace Go.Proofs.YtgmkmeodimmdoaaGreatDoor
open Go.RowKit
set_option maxRecDepth 100000
abbrev SD.nq (S:SD):SD:={ S with D:=S.D.setQ [] none 0 }
theorem SD.Of.nq {S:SD} {w:PW} (h:S.Of w):S.nq.Of w:=⟨⟨h.ok.room,h.ok.first,h.ok.size⟩,h.pure⟩
theorem sc_open {h:Hp} {g:Nat} {S:SD} {l:List Atom} (o:Own h (.row (scRow g S)::scMem S l)):Own h (wAtoms S.nq.D++(.row (scRow g S.nq)::l)):=by
 refine Own.perm (l:=.row (rowI (.slice none 0 0) [])::.row (scRow g S)::scMem S l) o.nilI (perm_of fun x=>?_);simp only [wAtoms,scMem,WD.cv,WD.rv,WD.qv,List.count_append,List.count_cons];have e:scRow g S.nq=scRow g S:=rfl;rw [e,show (([]:List Int).length)=0 from rfl];omega
theorem sc_shut {h:Hp} {g:Nat} {S:SD} {l:List Atom} (o:Own h (wAtoms S.D++(.row (scRow g S)::l))):Own h (.row (scRow g S)::scMem S l):=by
 refine Own.tail (x:=.row (rowI S.D.qv S.D.queue)) (o.perm (perm_of fun x=>?_));simp only [wAtoms,scMem,List.count_append,List.count_cons];omega
theorem eqlP_run (p:Option Addr) (x y:Operand) (w:World):(do eqGuard .eql 165 x y (.pointer p) (.pointer none);binOp .eql 165 (.pointer p) (.pointer none):Sem Value).run Tryz.prog w=.ok (.bool p.isNone) w:=by
 cases p<;>kernel_rfl
theorem Ext.eqlP {o:Oper} {x y:Operand} {t2:TypeId} (ho:o.op=.binOp .eql 165 x y t2) {ev:Operand→Value} {h:Hp} {K:Option Value→Hp→Prop} {p:Option Addr} (hx:ev x=.pointer p) (hy:ev y=.pointer none) (k:K (some (.bool p.isNone)) h):Ext Tryz.prog (execOp ev o) h K:=by
 refine Ext.val (.bool p.isNone) (fun w=>?_) k;have:=eqlP_run p x y w;simp only [execOp,ho,hx,hy];exact run_value _ w _ w this
theorem sgive_con (g:Nat) (S:SD) (w:PW) (hS:S.Of w) (hn:S.D.runs.length≤1000) (id:Int) (v:Int×Int) (hv:okV v=true) (hsz:∀i (hi:i<S.D.runs.length),S.D.runs[i].1.st=2→S.size<6∧∃k:Nat,S.D.runs[i].1.pl=k∧k<S.D.code.length)
  (h:Hp) (l:List Atom) (ho:Own h (wAtoms S.D++(.row (scRow g S)::l))) :
  Con Tryz.prog 159 #[.pointer (some ⟨g,0,none⟩),.int .i64 id,.agg #[.int .i64 v.1,.int .i64 v.2]] h fun r h'=>r=.tuple #[]∧∃S':SD,S'.Of (giveP w id v)∧Own h' (wAtoms S'.D++(.row (scRow g S')::l)):=by
 have hfit:∀k:Int,Eld.AH.fitsB v.1 v.2 k=fitsP v k:=fun k=>by
  have e:Eld.okB v.1 v.2=true:=hv;unfold Eld.AH.fitsB fitsP;rw [e,Bool.true_and,Bool.beq_comm (a:=k) (b:=v.1)]
 have hw:w={ S.D.pure with queue:=ringL S.room S.first S.size }:=hS.pure.symm;refine Con.of_W (tb:=tbG) (args:=[.pointer (some ⟨g,0,none⟩),.int .i64 id,.agg #[.int .i64 v.1,.int .i64 v.2]]) Tryz.func159 rfl Tryz.results159 Tryz.ntmps159 (by simp) (Tryz.call159 _) (tm:=[(0,.v (.pointer (some ⟨g,0,none⟩))),(1,.v (.int .i64 id)),(2,.a [.int .i64 v.1,.int .i64 v.2])]) rfl ?_;refine vc_ok ⟨tbG_ok,_,Tryz.func159,Tryz.results159,Tryz.ntmps159⟩ 400 _ _ _ _ ?_;conv=>whnf
 refine Ext.loadSc rfl ⟨rfl,rfl⟩ rfl hS.ok (ho.rowOk (by simp)) 6 (by omega) rfl (.int .i64 S.D.sent) rfl ?_;conv=>whnf
 refine Ext.storeSc rfl rfl rfl hS.ok (w_row ho) 6 (by omega) rfl (.int .i64 (wr (S.D.sent+1))) rfl rfl (by simp [Value.oneCell']) { S with D:={ S.D with sent:=wr (S.D.sent+1) } } rfl fun h2 ho2=>?_
 conv=>whnf
 obtain⟨S1,hS1⟩:∃S1:SD,S1={ S with D:={ S.D with sent:=wr (S.D.sent+1) } }:=⟨_,rfl⟩;have ho3:Own h2 (.row (scRow g S1)::(wAtoms S1.D++l)):=by rw [hS1];exact ho2
 have hok1:S1.Ok:=by rw [hS1];exact⟨hS.ok.room,hS.ok.first,hS.ok.size⟩
 have hr1:S1.D.runs=S.D.runs:=by rw [hS1]
 clear ho2 ho;refine(runOf_con g S1 hok1 (by rw [hr1];exact hn) id h2 (ho3.rowOk List.mem_cons_self) (ho3.rowOk (by simp [wAtoms]))).mono ?_;rintro r h3 ⟨hro,rfl⟩;have hlose:Own h3 (wAtoms S1.D++(.row (scRow g S1)::l)):=w_lists ho3;have hLo:loseP w=giveP w id v→SD.Of { S1 with D:={ S1.D with lost:=wr (S1.D.lost+1) } } (giveP w id v):=fun e=>by
  rw [←e,hw,hS1];exact⟨⟨hS.ok.room,hS.ok.first,hS.ok.size⟩,rfl⟩
 rcases hro with⟨gr,i,hid,hi,hra,rfl⟩|⟨hno,rfl⟩
 ·have hv:S1.D.rv=.slice (some ⟨gr,0,none⟩) S1.D.runs.length S1.D.rk:=by rw [WD.rv,hra]
  have hr:RowOk h3 (rowR S1.D.rv S1.D.runs):=ho3.rowOk (by simp [wAtoms]);have hgi:giveP w id v=giveAt w i id S1.D.runs[i].1 v:=by
   unfold giveP;have h1:(id-1).toNat=i:=by omega
   have hlen:w.runs.length=S1.D.runs.length:=by rw [hw];show (S.D.runs.map _).length=_;rw [List.length_map,hr1]
   have hg:w.runs[i]?=some S1.D.runs[i].1:=by rw [hw];show (S.D.runs.map _)[i]?=_;rw [List.getElem?_map,←hr1,List.getElem?_eq_getElem hi];rfl
   rw [if_pos (by rw [hlen];omega),h1,hg]
  have hsz1:S1.D.runs[i].1.st=2→S.size<6∧∃k:Nat,S1.D.runs[i].1.pl=k∧k<S.D.code.length:=by
   have:=hsz i (by rw [←hr1];exact hi);subst hS1;exact this
  conv=>whnf
  refine Ext.eqlP rfl rfl rfl ?_;conv=>whnf
  refine⟨fun _=>?_,fun e=>(by cases e)⟩;conv=>whnf
  refine Ext.loadRunCell rfl ⟨rfl,rfl⟩ rfl hr hv hi 5 (by omega) rfl (.int .i64 S1.D.runs[i].1.st) rfl ?_;conv=>whnf
  refine⟨fun h5=>?_,fun h5=>?_⟩<;>conv=>whnf
  ·refine Ext.loadRunCell rfl ⟨rfl,rfl⟩ rfl hr hv hi 4 (by omega) rfl (.slice S1.D.runs[i].2.a1 S1.D.runs[i].1.mail.length S1.D.runs[i].2.k1) rfl ?_;conv=>whnf
   refine⟨fun hc=>?_,fun hc=>?_⟩<;>conv=>whnf
   ·refine Ext.loadSc rfl ⟨rfl,rfl⟩ rfl hok1 (ho3.rowOk (by simp)) 8 (by omega) rfl (.int .i64 S1.D.lost) rfl ?_;conv=>whnf
    refine Ext.storeSc rfl rfl rfl hok1 ho3 8 (by omega) rfl (.int .i64 (wr (S1.D.lost+1))) rfl rfl (by simp [Value.oneCell']) { S1 with D:={ S1.D with lost:=wr (S1.D.lost+1) } } rfl fun h4 ho4=>?_
    conv=>whnf
    refine⟨rfl,_,hLo ?_,w_lists ho4⟩;rw [hgi];unfold giveAt;rw [if_pos (by rw [h5,Bool.false_or];exact hc)]
   ·have hm:S1.D.runs[i].1.mail.length<12:=by simp at hc;omega
    refine W.cut [(1,.v (.int .i64 id)),(0,.v (.pointer (some ⟨g,0,none⟩))),(5,.p 0 0),(6,.v (.pointer (some ⟨gr,0+i*13,none⟩)))] _ [] ⟨rfl,rfl,rfl,rfl,trivial⟩ (List.append_nil _).symm rfl ⟨_,rfl⟩ ?_;refine W.draw [(0,true),(1,true),(2,true),(3,true),(5,true),(1004006,false),(6,false),(7,false),(8,true),(9,true),(10,false)] [0] none 99 (by kernel_rfl) rfl (by kernel_rfl) mixed rfl (fun g e=>by cases e) ?_;refine vc_ok ⟨tbG_ok,_,Tryz.func159,Tryz.results159,Tryz.ntmps159⟩ 400 _ _ _ _ ?_;conv=>whnf
    have ho1:=w_open hlose i hi;refine⟨?_,?_⟩
    ·conv=>whnf
     refine Ext.loadRunCell rfl ⟨rfl,rfl⟩ rfl hr hv hi 4 (by omega) rfl (.slice S1.D.runs[i].2.a1 S1.D.runs[i].1.mail.length S1.D.runs[i].2.k1) rfl ?_;conv=>whnf
     refine Ext.litV rfl (Own.front2 ho1) v rfl fun g2 h5' _ ho5=>?_
     conv=>whnf
     refine Ext.pushV rfl ho5 rfl rfl (by omega) fun a1 k1 h6 ho6=>?_
     conv=>whnf
     refine Ext.storeRunCell rfl rfl rfl hi hv 4 (by omega) (.slice a1 (S1.D.runs[i].1.mail++[v]).length k1) rfl rfl ({ S1.D.runs[i].1 with mail:=S1.D.runs[i].1.mail++[v] },{ S1.D.runs[i].2 with a1:=a1,k1:=k1 }) rfl rfl ho6.back2 rfl rfl fun h7 ho7=>?_
     conv=>whnf
     obtain⟨x,hx⟩:∃x:RunD×RunP,x=({ S1.D.runs[i].1 with mail:=S1.D.runs[i].1.mail++[v] },{ S1.D.runs[i].2 with a1:=a1,k1:=k1 }):=⟨_,rfl⟩;obtain⟨S2,hS2⟩:∃S2:SD,S2={ S1 with D:=S1.D.setRun i x }:=⟨_,rfl⟩;have ho8:Own h7 (wAtoms S2.D++(.row (scRow g S2)::l)):=by
      have e:scRow g S2=scRow g S1:=by rw [hS2];simp [scRow,SD.cells,SD.rest,WD.rv]
      rw [e,hS2];rw [←hx] at ho7;exact ho7
     clear ho7 ho6 ho5 ho1;have hok2:S2.Ok:=by rw [hS2];exact⟨hok1.room,hok1.first,hok1.size⟩
     have hl2:S2.D.runs.length=S1.D.runs.length:=by rw [hS2];simp
     have hi2:i<S2.D.runs.length:=by rw [hl2];exact hi
     have hx2:S2.D.runs[i]=x:=by simp [hS2]
     have hra2:S2.D.ra=some ⟨gr,0,none⟩:=by rw [hS2];exact hra
     have hv2:S2.D.rv=.slice (some ⟨gr,0,none⟩) S2.D.runs.length S2.D.rk:=by rw [WD.rv,hra2]
     have hr2:RowOk h7 (rowR S2.D.rv S2.D.runs):=ho8.rowOk (by simp [wAtoms]);have hrc2:RowOk h7 (rowO S2.D.cv S2.D.code):=ho8.rowOk (by simp [wAtoms]);have hsc2:RowOk h7 (scRow g S2):=ho8.rowOk (by simp);have hcode:S2.D.code=S.D.code:=by rw [hS2,hS1]
     have hst3:(S1.D.runs[i].1.st==3||decide ((S1.D.runs[i].1.mail.length:Int)≥12))=false:=by rw [h5,hc];rfl
     refine W.cut [(1,.v (.int .i64 id)),(0,.v (.pointer (some ⟨g,0,none⟩))),(5,.p 0 0),(6,.v (.pointer (some ⟨gr,0+i*13,none⟩)))] _ [] ⟨rfl,rfl,rfl,rfl,trivial⟩ (List.append_nil _).symm rfl ⟨_,rfl⟩ ?_;refine W.draw [(0,true),(1,true),(2,true),(3,true),(4,true),(5,true),(6,true),(7,true),(8,true),(9,true),(10,true),(11,true),(12,true),(13,true),(14,true),(15,true),(16,true),(17,true),(18,true),(19,false),(20,true)] [0] (some h7) 99 (by kernel_rfl) rfl (by kernel_rfl) mixed rfl (fun g e=>by cases e;exact Hp.le_refl _) ?_;refine vc_ok ⟨tbG_ok,_,Tryz.func159,Tryz.results159,Tryz.ntmps159⟩ 400 _ _ _ _ ?_;conv=>whnf
     refine Rd.loadRunCell rfl ⟨rfl,rfl⟩ rfl hr2 hv2 hi2 5 (by omega) rfl (.int .i64 S1.D.runs[i].1.st) (by rw [hx2,hx];rfl) ?_;conv=>whnf
     refine⟨fun h6=>?_,fun h6=>?_⟩<;>conv=>whnf
     ·obtain⟨hs6,k,hk1,hk2⟩:=hsz1 (eq_of_beq h6);have hk2':k<S2.D.code.length:=by rw [hcode];exact hk2
      obtain⟨gc,hca⟩:=row_some hrc2 (by show 0<S2.D.code.length;omega);have hcv:S2.D.cv=.slice (some ⟨gc,0,none⟩) S2.D.code.length S2.D.ck:=by rw [WD.cv,hca]
      refine Rd.loadSc rfl ⟨rfl,rfl⟩ rfl hok2 hsc2 2 (by omega) rfl S2.D.cv rfl ?_;conv=>whnf
      refine Rd.loadRunCell rfl ⟨rfl,rfl⟩ rfl hr2 hv2 hi2 1 (by omega) rfl (.int .i64 (k:Nat)) (by rw [hx2,hx,←hk1];rfl) ?_;conv=>whnf
      refine Rd.index slOp.u slOp.size rfl (by exact hcv) rfl k rfl hk2' ?_;conv=>whnf
      refine Rd.load tbE_ok rfl rfl hrc2 hcv rfl (by show 0+k*6+2+1≤S2.D.code.length*6;omega) (.int .i64 S2.D.code[k].s) (.inr ⟨rfl,by rw [Nat.zero_add];exact flat_get encO 6 encO_len S2.D.code k hk2' 2 (by decide),rfl⟩) ?_;conv=>whnf
      refine(iFits_con v S2.D.code[k].s h7).mono ?_;rintro r h8 ⟨rfl,rfl⟩;rw [hfit];have hstep:stepAt w.code S1.D.runs[i].1=S2.D.code[k]:=by
       have e:w.code=S2.D.code:=by rw [hw,hcode];rfl
       unfold stepAt;rw [e,hk1,Int.toNat_natCast,List.getD_eq_getElem?_getD,List.getElem?_eq_getElem hk2'];rfl
      conv=>whnf
      refine⟨Hp.le_refl _,?_⟩;conv=>whnf
      refine⟨fun h9=>?_,fun h9=>?_⟩<;>conv=>whnf
      ·refine Ext.storeRunCell rfl rfl rfl hi2 hv2 5 (by omega) (.int .i64 1) rfl rfl ({ x.1 with st:=1 },x.2) (by rw [hx2];rfl) (by rw [hx2];rfl) (w_open ho8 i hi2) rfl rfl fun h10 ho10=>?_
       conv=>whnf
       obtain⟨S3,hS3⟩:∃S3:SD,S3={ S2 with D:=S2.D.setRun i ({ x.1 with st:=1 },x.2) }:=⟨_,rfl⟩;have hok3:S3.Ok:=by rw [hS3];exact⟨hok2.room,hok2.first,hok2.size⟩
       have hs3:S3.size<6:=by rw [hS3,hS2,hS1];exact hs6
       have ho11:Own h10 (.row (scRow g S3)::(wAtoms S3.D++l)):=by
        have e:scRow g S3=scRow g S2:=by rw [hS3];simp [scRow,SD.cells,SD.rest,WD.rv]
        rw [e,hS3];exact w_row ho10
       refine(push_con g S3 hok3 hs3 id h10 _ ho11).mono ?_;rintro r h12 ⟨rfl,ho12⟩;conv=>whnf
       refine⟨rfl,{ S3 with room:=S3.room.set ((S3.first+S3.size) % 6) id,size:=S3.size+1 },⟨⟨by rw [List.length_set];exact hok3.room,hok3.first,by show S3.size+1≤6;omega⟩,?_⟩,w_lists ho12⟩;rw [hgi];unfold giveAt;rw [if_neg (by rw [hst3];exact Bool.false_ne_true),if_pos (by rw [show (S1.D.runs[i].1.st==2)=true from h6,Bool.true_and,hstep];exact h9)];show { S3.D.pure with queue:=ringL (S3.room.set ((S3.first+S3.size) % 6) id) S3.first (S3.size+1) }=_;rw [ringL_push hok3.room hs3];subst hS3;subst hS2;subst hS1;rw [hw,hx];simp [WD.pure,List.map_set]
      ·refine⟨rfl,S2,⟨hok2,?_⟩,ho8⟩;rw [hgi];unfold giveAt;rw [if_neg (by rw [hst3];exact Bool.false_ne_true),if_neg (by rw [show (S1.D.runs[i].1.st==2)=true from h6,Bool.true_and,hstep];rw [h9];exact Bool.false_ne_true)];subst hS2;subst hS1;rw [hw,hx];simp [WD.pure,List.map_set]
     ·refine⟨rfl,S2,⟨hok2,?_⟩,ho8⟩;rw [hgi];unfold giveAt;rw [if_neg (by rw [hst3];exact Bool.false_ne_true),if_neg (by rw [show (S1.D.runs[i].1.st==2)=false from h6];exact Bool.false_ne_true)];subst hS2;subst hS1;rw [hw,hx];simp [WD.pure,List.map_set]
    ·conv=>whnf
     refine Ext.litV rfl (Own.front2 ho1) v rfl fun g2 h5' _ ho5=>?_
     conv=>whnf
     refine Ext.loadRunCell (D:=S1.D) rfl ⟨rfl,rfl⟩ rfl (ho5.rowOk (by simp)) hv hi 4 (by omega) rfl (.slice S1.D.runs[i].2.a1 S1.D.runs[i].1.mail.length S1.D.runs[i].2.k1) rfl ?_;conv=>whnf
     refine Ext.pushV rfl ho5 rfl rfl (by omega) fun a1 k1 h6 ho6=>?_
     conv=>whnf
     refine Ext.storeRunCell rfl rfl rfl hi hv 4 (by omega) (.slice a1 (S1.D.runs[i].1.mail++[v]).length k1) rfl rfl ({ S1.D.runs[i].1 with mail:=S1.D.runs[i].1.mail++[v] },{ S1.D.runs[i].2 with a1:=a1,k1:=k1 }) rfl rfl ho6.back2 rfl rfl fun h7 ho7=>?_
     conv=>whnf
     obtain⟨x,hx⟩:∃x:RunD×RunP,x=({ S1.D.runs[i].1 with mail:=S1.D.runs[i].1.mail++[v] },{ S1.D.runs[i].2 with a1:=a1,k1:=k1 }):=⟨_,rfl⟩;obtain⟨S2,hS2⟩:∃S2:SD,S2={ S1 with D:=S1.D.setRun i x }:=⟨_,rfl⟩;have ho8:Own h7 (wAtoms S2.D++(.row (scRow g S2)::l)):=by
      have e:scRow g S2=scRow g S1:=by rw [hS2];simp [scRow,SD.cells,SD.rest,WD.rv]
      rw [e,hS2];rw [←hx] at ho7;exact ho7
     clear ho7 ho6 ho5 ho1;have hok2:S2.Ok:=by rw [hS2];exact⟨hok1.room,hok1.first,hok1.size⟩
     have hl2:S2.D.runs.length=S1.D.runs.length:=by rw [hS2];simp
     have hi2:i<S2.D.runs.length:=by rw [hl2];exact hi
     have hx2:S2.D.runs[i]=x:=by simp [hS2]
     have hra2:S2.D.ra=some ⟨gr,0,none⟩:=by rw [hS2];exact hra
     have hv2:S2.D.rv=.slice (some ⟨gr,0,none⟩) S2.D.runs.length S2.D.rk:=by rw [WD.rv,hra2]
     have hr2:RowOk h7 (rowR S2.D.rv S2.D.runs):=ho8.rowOk (by simp [wAtoms]);have hrc2:RowOk h7 (rowO S2.D.cv S2.D.code):=ho8.rowOk (by simp [wAtoms]);have hsc2:RowOk h7 (scRow g S2):=ho8.rowOk (by simp);have hcode:S2.D.code=S.D.code:=by rw [hS2,hS1]
     have hst3:(S1.D.runs[i].1.st==3||decide ((S1.D.runs[i].1.mail.length:Int)≥12))=false:=by rw [h5,hc];rfl
     refine W.cut [(1,.v (.int .i64 id)),(0,.v (.pointer (some ⟨g,0,none⟩))),(5,.p 0 0),(6,.v (.pointer (some ⟨gr,0+i*13,none⟩)))] _ [] ⟨rfl,rfl,rfl,rfl,trivial⟩ (List.append_nil _).symm rfl ⟨_,rfl⟩ ?_;refine W.draw [(0,true),(1,true),(2,true),(3,true),(4,true),(5,true),(6,true),(7,true),(8,true),(9,true),(10,true),(11,true),(12,true),(13,true),(14,true),(15,true),(16,true),(17,true),(18,true),(19,false),(20,true)] [0] (some h7) 99 (by kernel_rfl) rfl (by kernel_rfl) mixed rfl (fun g e=>by cases e;exact Hp.le_refl _) ?_;refine vc_ok ⟨tbG_ok,_,Tryz.func159,Tryz.results159,Tryz.ntmps159⟩ 400 _ _ _ _ ?_;conv=>whnf
     refine Rd.loadRunCell rfl ⟨rfl,rfl⟩ rfl hr2 hv2 hi2 5 (by omega) rfl (.int .i64 S1.D.runs[i].1.st) (by rw [hx2,hx];rfl) ?_;conv=>whnf
     refine⟨fun h6=>?_,fun h6=>?_⟩<;>conv=>whnf
     ·obtain⟨hs6,k,hk1,hk2⟩:=hsz1 (eq_of_beq h6);have hk2':k<S2.D.code.length:=by rw [hcode];exact hk2
      obtain⟨gc,hca⟩:=row_some hrc2 (by show 0<S2.D.code.length;omega);have hcv:S2.D.cv=.slice (some ⟨gc,0,none⟩) S2.D.code.length S2.D.ck:=by rw [WD.cv,hca]
      refine Rd.loadSc rfl ⟨rfl,rfl⟩ rfl hok2 hsc2 2 (by omega) rfl S2.D.cv rfl ?_;conv=>whnf
      refine Rd.loadRunCell rfl ⟨rfl,rfl⟩ rfl hr2 hv2 hi2 1 (by omega) rfl (.int .i64 (k:Nat)) (by rw [hx2,hx,←hk1];rfl) ?_;conv=>whnf
      refine Rd.index slOp.u slOp.size rfl (by exact hcv) rfl k rfl hk2' ?_;conv=>whnf
      refine Rd.load tbE_ok rfl rfl hrc2 hcv rfl (by show 0+k*6+2+1≤S2.D.code.length*6;omega) (.int .i64 S2.D.code[k].s) (.inr ⟨rfl,by rw [Nat.zero_add];exact flat_get encO 6 encO_len S2.D.code k hk2' 2 (by decide),rfl⟩) ?_;conv=>whnf
      refine(iFits_con v S2.D.code[k].s h7).mono ?_;rintro r h8 ⟨rfl,rfl⟩;rw [hfit];have hstep:stepAt w.code S1.D.runs[i].1=S2.D.code[k]:=by
       have e:w.code=S2.D.code:=by rw [hw,hcode];rfl
       unfold stepAt;rw [e,hk1,Int.toNat_natCast,List.getD_eq_getElem?_getD,List.getElem?_eq_getElem hk2'];rfl
      conv=>whnf
      refine⟨Hp.le_refl _,?_⟩;conv=>whnf
      refine⟨fun h9=>?_,fun h9=>?_⟩<;>conv=>whnf
      ·refine Ext.storeRunCell rfl rfl rfl hi2 hv2 5 (by omega) (.int .i64 1) rfl rfl ({ x.1 with st:=1 },x.2) (by rw [hx2];rfl) (by rw [hx2];rfl) (w_open ho8 i hi2) rfl rfl fun h10 ho10=>?_
       conv=>whnf
       obtain⟨S3,hS3⟩:∃S3:SD,S3={ S2 with D:=S2.D.setRun i ({ x.1 with st:=1 },x.2) }:=⟨_,rfl⟩;have hok3:S3.Ok:=by rw [hS3];exact⟨hok2.room,hok2.first,hok2.size⟩
       have hs3:S3.size<6:=by rw [hS3,hS2,hS1];exact hs6
       have ho11:Own h10 (.row (scRow g S3)::(wAtoms S3.D++l)):=by
        have e:scRow g S3=scRow g S2:=by rw [hS3];simp [scRow,SD.cells,SD.rest,WD.rv]
        rw [e,hS3];exact w_row ho10
       refine(push_con g S3 hok3 hs3 id h10 _ ho11).mono ?_;rintro r h12 ⟨rfl,ho12⟩;conv=>whnf
       refine⟨rfl,{ S3 with room:=S3.room.set ((S3.first+S3.size) % 6) id,size:=S3.size+1 },⟨⟨by rw [List.length_set];exact hok3.room,hok3.first,by show S3.size+1≤6;omega⟩,?_⟩,w_lists ho12⟩;rw [hgi];unfold giveAt;rw [if_neg (by rw [hst3];exact Bool.false_ne_true),if_pos (by rw [show (S1.D.runs[i].1.st==2)=true from h6,Bool.true_and,hstep];exact h9)];show { S3.D.pure with queue:=ringL (S3.room.set ((S3.first+S3.size) % 6) id) S3.first (S3.size+1) }=_;rw [ringL_push hok3.room hs3];subst hS3;subst hS2;subst hS1;rw [hw,hx];simp [WD.pure,List.map_set]
      ·refine⟨rfl,S2,⟨hok2,?_⟩,ho8⟩;rw [hgi];unfold giveAt;rw [if_neg (by rw [hst3];exact Bool.false_ne_true),if_neg (by rw [show (S1.D.runs[i].1.st==2)=true from h6,Bool.true_and,hstep];rw [h9];exact Bool.false_ne_true)];subst hS2;subst hS1;rw [hw,hx];simp [WD.pure,List.map_set]
     ·refine⟨rfl,S2,⟨hok2,?_⟩,ho8⟩;rw [hgi];unfold giveAt;rw [if_neg (by rw [hst3];exact Bool.false_ne_true),if_neg (by rw [show (S1.D.runs[i].1.st==2)=false from h6];exact Bool.false_ne_true)];subst hS2;subst hS1;rw [hw,hx];simp [WD.pure,List.map_set]
  ·refine Ext.loadSc rfl ⟨rfl,rfl⟩ rfl hok1 (ho3.rowOk (by simp)) 8 (by omega) rfl (.int .i64 S1.D.lost) rfl ?_;conv=>whnf
   refine Ext.storeSc rfl rfl rfl hok1 ho3 8 (by omega) rfl (.int .i64 (wr (S1.D.lost+1))) rfl rfl (by simp [Value.oneCell']) { S1 with D:={ S1.D with lost:=wr (S1.D.lost+1) } } rfl fun h4 ho4=>?_
   conv=>whnf
   refine⟨rfl,_,hLo ?_,w_lists ho4⟩;rw [hgi];unfold giveAt;rw [if_pos (by rw [show (S1.D.runs[i].1.st==3)=true from h5];rfl)]
 ·conv=>whnf
  refine Ext.eqlP rfl rfl rfl ?_;conv=>whnf
  refine⟨fun e=>(by cases e),fun _=>?_⟩;conv=>whnf
  refine Ext.loadSc rfl ⟨rfl,rfl⟩ rfl hok1 (ho3.rowOk (by simp)) 8 (by omega) rfl (.int .i64 S1.D.lost) rfl ?_;conv=>whnf
  refine Ext.storeSc rfl rfl rfl hok1 ho3 8 (by omega) rfl (.int .i64 (wr (S1.D.lost+1))) rfl rfl (by simp [Value.oneCell']) { S1 with D:={ S1.D with lost:=wr (S1.D.lost+1) } } rfl fun h4 ho4=>?_
  conv=>whnf
  refine⟨rfl,_,hLo ?_,w_lists ho4⟩;rw [hw];unfold giveP;rw [if_neg];have hlen:({ S.D.pure with queue:=ringL S.room S.first S.size }:PW).runs.length=S1.D.runs.length:=by show (S.D.runs.map _).length=_;rw [List.length_map,hr1]
  rw [hlen];omega
abbrev WD.zero:WD:=⟨[],[],[],0,0,0,0,none,0,none,0,none,0⟩
theorem OkS.q6 {w:PW} {V:List Int} (ok:OkS w V):w.queue.length≤6:=by
 obtain⟨h1,h2⟩:=(idsB_iff 0 w.queue).1 ok.ids;exact nodup_len 6 w.queue h2 fun x hx=>(h1 x hx).1
theorem OkS.run {w:PW} {V:List Int} (ok:OkS w V) (i:Nat) (hi:i<w.runs.length):RunF w.runs[i]:=by
 have h:=(ok.fit i hi).ok;unfold Eld.specRB at h;rw [Bool.and_eq_true] at h;exact runF h.1
theorem OkS.at {w:PW} {V:List Int} (ok:OkS w V) (i:Nat) (hi:i<w.runs.length):∃k:Nat,w.runs[i].pl=k∧k<w.code.length:=by
 have h1:=(ok.run i hi).pl;have h2:=(ok.fit i hi).pl;exact⟨w.runs[i].pl.toNat,by omega,by omega⟩
theorem SD.Of.size {S:SD} {w:PW} (h:S.Of w):S.size=w.queue.length:=by
 rw [←h.pure];show S.size=(ringL S.room S.first S.size).length;simp [ringL]
theorem iValOk_con (v:Int×Int) (h:Hp):Con Tryz.prog 46 #[.agg #[.int .i64 v.1,.int .i64 v.2]] h fun r h'=>r=.bool (okV v)∧h'=h:=by
 refine Con.of_below (Tryz.call46 _) fun w _=>?_
 exact(Eld.implOk_any v.1 v.2 w).mono fun e w' ⟨he,hb⟩=>⟨⟨_,he,rfl⟩,hb⟩
theorem Rd.quo {P:Program} {t t':TypeId} {o:Oper} {x y:Operand} (ho:o.op=.binOp .quo t x y t') {ev:Operand→Value} {h:Hp} {K:Value→Prop} {a b:Int} (hx:ev x=.int .i64 a) (hy:ev y=.int .i64 b) (hb:b≠0) (k:K (.int .i64 (IntKind.i64.wrap (a.tdiv b)))):Rd P (execOp ev o) h K :=
 ⟨_,fun w _=>by simp [execOp,ho,hx,hy,eqGuard,binOp,Op.intDiv,hb],k⟩
end Go.Proofs.YtgmkmeodimmdoaaGreatDoor
