import Derived.Test.YtgmkmeodimmdoaaGreatDoorBTa
namespace Go.Proofs.YtgmkmeodimmdoaaGreatDoor
open Go.RowKit
set_option maxRecDepth 100000
abbrev SD.on (S:SD) (D:WD):SD:={ S with D:=D }
theorem sc_same (g:Nat) (S:SD) (D:WD) (i:Nat) (y:RunD×RunP):scRow g (S.on (D.setRun i y))=scRow g (S.on D):=by simp [scRow,SD.cells,SD.rest,WD.rv]
theorem sc_turn {h:Hp} {g:Nat} {S:SD} {D:WD} {i:Nat} {y:RunD×RunP} {A l:List Atom} (o:Own h (A++(.row (scRow g (S.on D))::l))):Own h (A++(.row (scRow g (S.on (D.setRun i y)))::l)):=by rw [sc_same];exact o
theorem leave_con (g:Nat) (S:SD) (w:PW) (hS:S.Of w) (hn:S.D.runs.length≤1000) (hwt:∀x∈S.D.runs,x.1.wat.length<100000) (i:Nat) (hi:i<S.D.runs.length) (id:Int) (hid:S.D.runs[i].1.id=id) (gr:Nat) (hra:S.D.ra=some ⟨gr,0,none⟩) (v:Int×Int) (h:Hp) (l:List Atom) (ho:Own h (wAtoms S.D++(.row (scRow g S)::l))) :
  Con Tryz.prog 157 #[.pointer (some ⟨g,0,none⟩),.pointer (some ⟨gr,0+i*13,none⟩),.agg #[.int .i64 v.1,.int .i64 v.2]] h fun r h'=>r=.tuple #[]∧∃S':SD,S'.Of (fallA w i id S.D.runs[i].1 v)∧Own h' (wAtoms S'.D++(.row (scRow g S')::atL S.D.runs[i]::atW S.D.runs[i]::l)):=by
 refine Con.of_W (tb:=tbF) (args:=[.pointer (some ⟨g,0,none⟩),.pointer (some ⟨gr,0+i*13,none⟩),.agg #[.int .i64 v.1,.int .i64 v.2]]) Tryz.func157 rfl Tryz.results157 Tryz.ntmps157 (by simp) (Tryz.call157 _) (tm:=[(0,.v (.pointer (some ⟨g,0,none⟩))),(1,.v (.pointer (some ⟨gr,0+i*13,none⟩))),(2,.a [.int .i64 v.1,.int .i64 v.2])]) rfl ?_;refine vc_ok ⟨tbF_ok,_,Tryz.func157,Tryz.results157,Tryz.ntmps157⟩ 400 _ _ _ _ ?_;conv=>whnf
 refine W.escape [⟨165,[.pointer (some ⟨gr,0+i*13,none⟩)]⟩] ⟨32,[.int .i64 v.1,.int .i64 v.2]⟩ rfl fun b5 hb5=>?_
 have ho1:=Own.escape ho hb5 32 [.int .i64 v.1,.int .i64 v.2];generalize h.put b5 _=h1 at ho1 ⊢;refine W.escape [] ⟨165,[.pointer (some ⟨gr,0+i*13,none⟩)]⟩ rfl fun b4 hb4=>?_
 have ho2:=Own.escape ho1 hb4 165 [.pointer (some ⟨gr,0+i*13,none⟩)];generalize h1.put b4 _=h2 at ho2 ⊢;refine W.cut [(0,.v (.pointer (some ⟨g,0,none⟩))),(4,.v (.pointer (some ⟨b4,0,none⟩))),(5,.v (.pointer (some ⟨b5,0,none⟩)))] [] [] ⟨rfl,rfl,rfl,trivial⟩ rfl rfl ⟨_,rfl⟩ ?_;obtain⟨R4,hR4⟩:∃R:Row,R=one 165 1 b4 [.pointer (some ⟨gr,0+i*13,none⟩)]:=⟨_,rfl⟩;obtain⟨R5,hR5⟩:∃R:Row,R=one 32 2 b5 [.int .i64 v.1,.int .i64 v.2]:=⟨_,rfl⟩;obtain⟨l0,hl0⟩:∃l0:List Atom,l0=.row R4::.row R5::l:=⟨_,rfl⟩;have ho3:Own h2 (wAtoms S.D++(.row (scRow g S)::l0)):=by
  rw [hl0,hR4,hR5];refine ho2.perm (perm_of fun x=>?_);simp only [List.length_cons,List.length_nil,Nat.zero_add,Nat.reduceAdd,List.count_append,List.count_cons];omega
 have m4:Atom.row R4∈l0:=by rw [hl0];simp
 have m5:Atom.row R5∈l0:=by rw [hl0];simp
 have v4:R4.v.ownBlock=some b4:=by rw [hR4];rfl
 have v5:R5.v.ownBlock=some b5:=by rw [hR5];rfl
 clear ho2 ho1 ho hb4 hb5;refine W.draw [(0,true),(1,true),(2,true),(3,true),(4,true),(5,true),(6,true),(7,true),(8,true),(9,true),(10,true),(11,false),(12,false),(13,false),(14,false)] [] (some h2) 14 (by kernel_rfl) rfl (by kernel_rfl) mixed rfl (fun g e=>by cases e;exact Hp.le_refl _) ?_;refine vc_ok ⟨tbF_ok,_,Tryz.func157,Tryz.results157,Tryz.ntmps157⟩ 400 _ _ _ _ ?_;conv=>whnf
 refine Rd.loadSc rfl ⟨rfl,rfl⟩ rfl hS.ok (ho3.rowOk (by simp)) 8 (by omega) rfl (.int .i64 S.D.lost) rfl ?_;conv=>whnf
 have r4:RowOk h2 (one 165 1 b4 [.pointer (some ⟨gr,0+i*13,none⟩)]):=by rw [←hR4];exact ho3.rowOk (by simp [m4])
 refine Rd.load tbF_ok rfl rfl r4 rfl rfl (by show 0+1≤1*1;omega) (.pointer (some ⟨gr,0+i*13,none⟩)) (.inr ⟨rfl,rfl,rfl⟩) ?_;conv=>whnf
 refine Rd.loadRunCell (D:=S.D) rfl ⟨rfl,rfl⟩ rfl (ho3.rowOk (by simp [wAtoms])) (rv_same hra) hi 4 (by omega) rfl (.slice S.D.runs[i].2.a1 S.D.runs[i].1.mail.length S.D.runs[i].2.k1) rfl ?_;conv=>whnf
 refine Ext.storeSc rfl rfl rfl hS.ok (w_row ho3) 8 (by omega) rfl (.int .i64 (wr (S.D.lost+S.D.runs[i].1.mail.length))) rfl rfl (by simp [Value.oneCell']) { S with D:={ S.D with lost:=wr (S.D.lost+S.D.runs[i].1.mail.length) } } rfl fun h3 ho4=>?_
 conv=>whnf
 obtain⟨D1,hD1⟩:∃D1:WD,D1={ S.D with lost:=wr (S.D.lost+S.D.runs[i].1.mail.length) }:=⟨_,rfl⟩;have hi1:i<D1.runs.length:=by rw [hD1];exact hi
 have hra1:D1.ra=some ⟨gr,0,none⟩:=by rw [hD1];exact hra
 obtain⟨x0,hx0⟩:∃x0,x0=S.D.runs[i]:=⟨_,rfl⟩;have ho5:Own h3 (wAtoms (D1.setRun i x0)++(.row (scRow g (S.on D1))::l0)):=by
  have e:D1.setRun i x0=D1:=by
   subst hD1 hx0;show ({ S.D with lost:=_,runs:=S.D.runs.set i S.D.runs[i] }:WD)=_;rw [List.set_getElem_self]
  rw [e,hD1];exact w_lists ho4
 clear ho4 ho3 r4;have hi1':i<(D1.setRun i x0).runs.length:=by simpa using hi1
 have k45:∀{h':Hp} {L:List Atom},Own h' L→.row R4∈L→.row R5∈L→h' b4=some (.cells #[.pointer (some ⟨gr,0+i*13,none⟩)] 165 (0,0))∧h' b5=some (.cells #[.int .i64 v.1,.int .i64 v.2] 32 (0,0)):=fun o e4 e5=>⟨by
  have:=o.rowOk e4;rw [hR4] at this;exact one_at this,by
  have:=o.rowOk e5;rw [hR5] at this;exact one_at this⟩
 have kle:∀{h h':Hp},(h b4=some (.cells #[.pointer (some ⟨gr,0+i*13,none⟩)] 165 (0,0))∧h b5=some (.cells #[.int .i64 v.1,.int .i64 v.2] 32 (0,0)))→(h' b4=some (.cells #[.pointer (some ⟨gr,0+i*13,none⟩)] 165 (0,0))∧h' b5=some (.cells #[.int .i64 v.1,.int .i64 v.2] 32 (0,0)))→(keepB h [b4,b5]).le h':=fun k0 hk=>keep_same fun b hb=>by
  rcases List.mem_cons.1 hb with rfl|hb
  ·rw [hk.1,k0.1]
  ·rw [List.mem_singleton.1 hb,hk.2,k0.2]
 have k0:=k45 ho5 (by simp [m4]) (by simp [m5]);have q4:RowOk (keepB h3 [b4,b5]) (one 165 1 b4 [.pointer (some ⟨gr,0+i*13,none⟩)]):=RowOk.keep (by rw [←hR4];exact ho5.rowOk (by simp [m4])) rfl (by simp);have q5:RowOk (keepB h3 [b4,b5]) (one 32 2 b5 [.int .i64 v.1,.int .i64 v.2]):=RowOk.keep (by rw [←hR5];exact ho5.rowOk (by simp [m5])) rfl (by simp);refine W.draw [(0,true),(1,true),(2,true),(3,true),(4,true),(5,false),(6,true),(7,true),(8,false),(9,false),(10,false),(11,false)] [] (some (keepB h3 [b4,b5])) 11 (by kernel_rfl) rfl (by kernel_rfl) mixed rfl (fun g e=>by cases e;exact keep_self _ _) ?_;refine vc_ok ⟨tbF_ok,_,Tryz.func157,Tryz.results157,Tryz.ntmps157⟩ 400 _ _ _ _ ?_;conv=>whnf
 refine Rd.load tbF_ok rfl rfl q4 rfl rfl (by show 0+1≤1*1;omega) (.pointer (some ⟨gr,0+i*13,none⟩)) (.inr ⟨rfl,rfl,rfl⟩) ?_;conv=>whnf
 refine Rd.load tbF_ok rfl rfl q4 rfl rfl (by show 0+1≤1*1;omega) (.pointer (some ⟨gr,0+i*13,none⟩)) (.inr ⟨rfl,rfl,rfl⟩) ?_;conv=>whnf
 refine Rd.load tbF_ok rfl rfl q4 rfl rfl (by show 0+1≤1*1;omega) (.pointer (some ⟨gr,0+i*13,none⟩)) (.inr ⟨rfl,rfl,rfl⟩) ?_;conv=>whnf
 refine Ext.nilMail rfl hi1 hra1 x0 ho5 rfl rfl fun h4 ho6=>?_
 conv=>whnf
 have ho7:Own h4 (wAtoms (D1.setRun i ({ x0.1 with mail:=[] },{ x0.2 with a1:=none,k1:=0 }))++(.row (scRow g (S.on D1))::l0)):=(w_row ho6).tail;refine⟨kle k0 (k45 ho7 (by simp [m4]) (by simp [m5])),?_⟩;conv=>whnf
 refine Ext.nilLinks rfl hi1 hra1 _ ho7 rfl rfl fun h5 ho8=>?_
 conv=>whnf
 refine⟨kle k0 (k45 ho8 (by simp [m4]) (by simp [m5])),?_⟩;conv=>whnf
 refine Ext.nilWat rfl hi1 hra1 _ ho8 rfl rfl fun h6 ho9=>?_
 conv=>whnf
 obtain⟨x3,hx3⟩:∃x3:RunD×RunP,x3=({ x0.1 with mail:=[],links:=[],wat:=[] },{ x0.2 with a1:=none,k1:=0,a2:=none,k2:=0,a3:=none,k3:=0 }):=⟨_,rfl⟩;obtain⟨l1,hl1⟩:∃l1:List Atom,l1=atW x0::atL x0::.row (scRow g (S.on D1))::l0:=⟨_,rfl⟩;have ho10:Own h6 (wAtoms (D1.setRun i x3)++l1):=by rw [hx3,hl1];exact ho9
 have m41:Atom.row R4∈l1:=by rw [hl1];simp [m4]
 have m51:Atom.row R5∈l1:=by rw [hl1];simp [m5]
 clear ho9 ho8 ho7 ho6 q4 q5 k0 ho5;have k6:=k45 ho10 (by simp [m41]) (by simp [m51]);have q4:RowOk (keepB h6 [b4,b5]) (one 165 1 b4 [.pointer (some ⟨gr,0+i*13,none⟩)]):=RowOk.keep (by rw [←hR4];exact ho10.rowOk (by simp [m41])) rfl (by simp);have q5:RowOk (keepB h6 [b4,b5]) (one 32 2 b5 [.int .i64 v.1,.int .i64 v.2]):=RowOk.keep (by rw [←hR5];exact ho10.rowOk (by simp [m51])) rfl (by simp);refine W.draw [(0,true),(1,true),(2,true),(3,true),(4,true),(5,true),(6,false),(7,true),(8,true),(9,false),(10,false),(11,false),(12,false)] [] (some (keepB h6 [b4,b5])) 12 (by kernel_rfl) rfl (by kernel_rfl) mixed rfl (fun g e=>by cases e;exact keep_self _ _) ?_;refine vc_ok ⟨tbF_ok,_,Tryz.func157,Tryz.results157,Tryz.ntmps157⟩ 400 _ _ _ _ ?_;conv=>whnf
 refine Rd.load tbF_ok rfl rfl q4 rfl rfl (by show 0+1≤1*1;omega) (.pointer (some ⟨gr,0+i*13,none⟩)) (.inr ⟨rfl,rfl,rfl⟩) ?_;conv=>whnf
 refine Rd.load tbF_ok rfl rfl q4 rfl rfl (by show 0+1≤1*1;omega) (.pointer (some ⟨gr,0+i*13,none⟩)) (.inr ⟨rfl,rfl,rfl⟩) ?_;conv=>whnf
 refine Rd.load tbF_ok rfl rfl q4 rfl rfl (by show 0+1≤1*1;omega) (.pointer (some ⟨gr,0+i*13,none⟩)) (.inr ⟨rfl,rfl,rfl⟩) ?_;conv=>whnf
 refine Rd.load tbF_ok rfl rfl q5 rfl rfl (by show 0+2≤1*2;omega) (.agg #[.int .i64 v.1,.int .i64 v.2]) (.inl ⟨rfl,rfl⟩) ?_;conv=>whnf
 refine Ext.storeRunVs rfl rfl hi1 hra1 x3 5 [.int .i64 3] rfl rfl rfl (by decide) (by simp [Value.oneCell']) ({ x3.1 with st:=3 },x3.2) rfl rfl ho10 rfl fun h7 ho11=>?_
 conv=>whnf
 refine⟨kle k6 (k45 ho11 (by simp [m41]) (by simp [m51])),?_⟩;conv=>whnf
 refine Ext.storeRunVs rfl rfl hi1 hra1 ({ x3.1 with st:=3 },x3.2) 10 [.int .i64 v.1,.int .i64 v.2] rfl rfl rfl (by show 10+2≤13;omega) (by simp [Value.oneCell']) ({ x3.1 with st:=3,wk:=v.1,wn:=v.2 },x3.2) rfl rfl ho11 rfl fun h8 ho12=>?_
 conv=>whnf
 refine⟨kle k6 (k45 ho12 (by simp [m41]) (by simp [m51])),?_⟩;conv=>whnf
 refine Ext.storeRunVs rfl rfl hi1 hra1 ({ x3.1 with st:=3,wk:=v.1,wn:=v.2 },x3.2) 6 [.int .i64 0] rfl rfl rfl (by decide) (by simp [Value.oneCell']) ({ x3.1 with st:=3,wk:=v.1,wn:=v.2,due:=0 },x3.2) rfl rfl ho12 rfl fun h9 ho13=>?_
 conv=>whnf
 obtain⟨x4,hx4⟩:∃x4:RunD×RunP,x4=(x0.1.fall v,x3.2):=⟨_,rfl⟩;obtain⟨D2,hD2⟩:∃D2:WD,D2=D1.setRun i x4:=⟨_,rfl⟩;have ho14:Own h9 (wAtoms D2++l1):=by rw [hD2,hx4];subst hx3;exact ho13
 have hra2:D2.ra=some ⟨gr,0,none⟩:=by rw [hD2];exact hra1
 have hl2:D2.runs.length=S.D.runs.length:=by rw [hD2,hD1];simp
 have hi2:i<D2.runs.length:=by rw [hl2];exact hi
 have hid2:D2.runs[i].1.id=id:=by
  have e:D2.runs[i]=x4:=by simp [hD2]
  rw [e,hx4];show x0.1.id=id;rw [hx0];exact hid
 have hsc2:scRow g (S.on D2)=scRow g (S.on D1):=by rw [hD2];exact sc_same g S D1 i x4
 obtain⟨l2,hl2e⟩:∃l2:List Atom,l2=atL x0::atW x0::l0:=⟨_,rfl⟩;have m42:Atom.row R4∈l2:=by rw [hl2e];simp [m4]
 have ho15:Own h9 (.row (scRow g (S.on D2))::(wAtoms D2++l2)):=by
  rw [hsc2,hl2e];rw [hl1] at ho14;refine ho14.perm (perm_of fun x=>?_);simp only [List.count_append,List.count_cons];omega
 have hS2:(S.on D2).Ok:=⟨hS.ok.room,hS.ok.first,hS.ok.size⟩;clear ho14 ho13 ho12 ho11 ho10 q4 q5 k6 k45 kle m41 m51;refine Ext.makeFunc (fi:=[]) rfl ?_;conv=>whnf
 refine(keep_con g (S.on D2) hS2 b4 gr i D2.runs D2.rk hi2 h9 (wAtoms D2++l2) (List.mem_append_right _ (by rw [←hR4];exact m42)) (List.mem_append_left _ (by show Atom.row (rowR (.slice (some ⟨gr,0,none⟩) D2.runs.length D2.rk) D2.runs)∈wAtoms D2;rw [←rv_same hra2];simp [wAtoms])) ho15).mono ?_;rintro r h10 ⟨rfl,S3,hS3,hSD3,hrg3,ho16⟩;conv=>whnf
 have hSD3':S3.D=D2:=hSD3;refine Ext.loadSc rfl ⟨rfl,rfl⟩ rfl hS3 (ho16.rowOk List.mem_cons_self) 3 (by omega) rfl S3.D.rv rfl ?_;conv=>whnf
 rw [hSD3'];refine W.cut [(51,.v (.int .i64 (0:Nat))),(50,.v (.int .i64 (D2.runs.length:Nat))),(4,.v (.pointer (some ⟨b4,0,none⟩))),(0,.v (.pointer (some ⟨g,0,none⟩)))] [] [] ⟨rfl,rfl,rfl,rfl,trivial⟩ rfl rfl ⟨_,rfl⟩ ?_;have ho17:Own h10 (wAtoms D2++(.row (scRow g (S3.on D2))::l2)):=by
  have e:S3.on D2=S3:=by rw [←hSD3']
  rw [e];exact w_lists ho16
 refine W.loop (α:=Nat×WD) (fun x=>[(51,.v (.int .i64 (x.1:Nat))),(50,.v (.int .i64 (D2.runs.length:Nat))),(4,.v (.pointer (some ⟨b4,0,none⟩))),(0,.v (.pointer (some ⟨g,0,none⟩)))]) (fun _=>[])
  (fun x h'=>x.1≤D2.runs.length∧x.2.runs.length=D2.runs.length∧x.2.ra=some ⟨gr,0,none⟩∧(∀hx:i<x.2.runs.length,x.2.runs[i].1.id=id)∧Own h' (wAtoms x.2++(.row (scRow g (S3.on x.2))::l2))∧x.2.pure={ D2.pure with runs:=unwTo id x.1 D2.pure.runs }) (fun x=>D2.runs.length-x.1) ?_ (0,D2) h10 ⟨Nat.zero_le _,rfl,hra2,fun _=>hid2,ho17,by simp [unwTo]⟩
 rintro⟨j,E⟩ h11 ⟨hj,hEl,hEra,hEid,hEo,hEp⟩ ih;dsimp only at hj hEl hEra hEid hEo hEp ⊢;refine vc_ok ⟨tbF_ok,_,Tryz.func157,Tryz.results157,Tryz.ntmps157⟩ 400 _ _ _ _ ?_;conv=>whnf
 refine⟨fun c=>?_,fun c=>?_⟩<;>conv=>whnf
 ·have hlt:j<E.runs.length:=by simp at c;omega
  have hiE:i<E.runs.length:=by omega
  have hera:=rv_same hEra;have hok:(S3.on E).Ok:=⟨hS3.room,hS3.first,hS3.size⟩;have hjD:j<D2.pure.runs.length:=by rw [pure_len];omega
  have hEg:E.runs[j].1=D2.pure.runs[j]:=by
   have hlen:j<(unwTo id j D2.pure.runs).length:=by rw [unwTo_len _ _ _ (by omega)];exact hjD
   have e:E.pure.runs=unwTo id j D2.pure.runs:=by rw [hEp]
   have:E.pure.runs[j]?=(unwTo id j D2.pure.runs)[j]?:=by rw [e]
   rw [List.getElem?_eq_getElem (by rw [pure_len];exact hlt),List.getElem?_eq_getElem hlen,unwTo_get id j _ hjD hlen,pure_get E j hlt] at this;exact Option.some.inj this
  have hwy:E.runs[j].1.wat.length<100000:=by
   rw [hEg];have hm:D2.pure.runs[j]∈D2.pure.runs:=List.getElem_mem _;generalize D2.pure.runs[j]=z at hm ⊢;have e:D2.pure.runs=S.D.pure.runs.set i (x0.1.fall v):=by rw [hD2,hD1,hx4];simp [WD.pure,List.map_set]
   rw [e] at hm;rcases mem_set' hm with rfl|hm
   ·show (0:Nat)<100000;decide
   ·obtain⟨u,hu,rfl⟩:=List.mem_map.1 hm;exact hwt u hu
  have hq4:RowOk h11 (one 165 1 b4 [.pointer (some ⟨gr,0+i*13,none⟩)]):=by rw [←hR4];exact hEo.rowOk (by simp [m42])
  have p4:RowOk (keepB h11 [g,gr,b4]) (one 165 1 b4 [.pointer (some ⟨gr,0+i*13,none⟩)]):=RowOk.keep hq4 rfl (by simp);have hqs:RowOk h11 (scRow g (S3.on E)):=hEo.rowOk (by simp);have ps:RowOk (keepB h11 [g,gr,b4]) (scRow g (S3.on E)):=RowOk.keep hqs rfl (by simp);have pr:RowOk (keepB h11 [g,gr,b4]) (rowR E.rv E.runs):=RowOk.keep (g:=gr) (hEo.rowOk (by simp [wAtoms])) (by show E.rv.ownBlock=some gr;rw [hera];rfl) (by simp);obtain⟨ob,hob,hfr,hth⟩:=Own.freeze (w_open hEo j hlt) (by exact hera);have hfr2:Own h11 (atW E.runs[j]::.blk gr ob::atS E.runs[j]::atM E.runs[j]::atL E.runs[j]::wOth E j (.row (scRow g (S3.on E))::l2)):=hfr.perm (perm_of fun x=>by simp only [runRows,atS,atM,atL,atW,List.count_cons,List.cons_append,List.nil_append];omega);refine W.draw [(0,true),(1,true),(2,true),(3,true),(4,true),(5,true),(6,true),(7,true),(8,true),(9,true),(10,true),(11,true),(12,true),(13,true),(14,true),(15,true),(16,true),(17,true),(18,true),(19,false),(20,false),(21,false),(22,false)] [] (some (keepB h11 [g,gr,b4])) 22 (by kernel_rfl) rfl (by kernel_rfl) mixed rfl (fun g e=>by cases e;exact keep_self _ _) ?_;refine vc_ok ⟨tbF_ok,_,Tryz.func157,Tryz.results157,Tryz.ntmps157⟩ 400 _ _ _ _ ?_;conv=>whnf
  refine Rd.loadSc rfl ⟨rfl,rfl⟩ rfl hok ps 3 (by omega) rfl E.rv rfl ?_;conv=>whnf
  refine Rd.loadSc rfl ⟨rfl,rfl⟩ rfl hok ps 3 (by omega) rfl E.rv rfl ?_;conv=>whnf
  refine Rd.index slRun.u slRun.size rfl (by exact hera) rfl j rfl hlt ?_;conv=>whnf
  refine Rd.loadRunCell rfl ⟨rfl,rfl⟩ rfl pr hera hlt 8 (by omega) rfl (.slice E.runs[j].2.a3 E.runs[j].1.wat.length E.runs[j].2.k3) rfl ?_;conv=>whnf
  refine Rd.load tbF_ok rfl rfl p4 rfl rfl (by show 0+1≤1*1;omega) (.pointer (some ⟨gr,0+i*13,none⟩)) (.inr ⟨rfl,rfl,rfl⟩) ?_;conv=>whnf
  refine Rd.loadRunCell rfl ⟨rfl,rfl⟩ rfl pr hera hiE 0 (by omega) rfl (.int .i64 id) (by rw [←hEid hiE];rfl) ?_;conv=>whnf
  refine(listWithout_con E.runs[j].2.a3 E.runs[j].2.k3 E.runs[j].1.wat hwy id h11 _ hfr2).mono ?_;rintro r h12 ⟨rfl,ho18⟩;have kk:(keepB h11 [g,gr,b4]).le h12:=keep_same fun b hb=>by
   simp only [List.mem_cons,List.not_mem_nil,or_false] at hb;rcases hb with rfl|rfl|rfl
   ·rw [one_at (ho18.rowOk (r:=scRow b (S3.on E)) (by simp [wOth])),one_at hqs]
   ·rw [hob];exact ho18.ok (.blk b ob) (by simp)
   ·rw [one_at hq4];have:RowOk h12 R4:=ho18.rowOk (by simp [wOth,m42]);rw [hR4] at this;exact one_at this
  conv=>whnf
  refine⟨kk,?_⟩;conv=>whnf
  refine Ext.index slRun.u slRun.size rfl (by exact hera) rfl j rfl hlt ?_;conv=>whnf
  refine⟨kk,?_⟩;conv=>whnf
  obtain⟨x,hx⟩:∃x:RunD×RunP,x=({ E.runs[j].1 with wat:=lessP E.runs[j].1.wat id },E.runs[j].2):=⟨_,rfl⟩;have ho19:Own h12 (.row (rowR E.rv E.runs)::(runRows x++wOth E j (.row (scRow g (S3.on E))::l2))):=by
   refine w_watR ?_;have h1:=Own.thaw (r:=rowR E.rv E.runs) (ho18.swap) (by exact hera) (hth h12 (ho18.ok (.blk gr ob) (by simp)));subst hx;exact h1.swap
  refine Ext.storeRunCell rfl rfl rfl hlt hera 8 (by omega) (.slice E.runs[j].2.a3 (lessP E.runs[j].1.wat id).length E.runs[j].2.k3) rfl rfl x (by subst hx;rfl) rfl ho19 rfl rfl fun h13 ho20=>?_
  conv=>whnf
  have hw:IntKind.i64.wrap ((j:Int)+1)=((j+1:Nat):Int):=by rw [wrapN _ (by omega) (by omega)];omega
  rw [hw];refine W.back (ih (j+1,E.setRun j x) h13 ⟨by dsimp only;omega,by dsimp only;rw [List.length_set];exact hEl,hEra,fun hx2=>?_,sc_turn ho20,?_⟩ (by dsimp only;omega)) [] (by exact⟨rfl,rfl,rfl,rfl,trivial⟩) rfl rfl
  ·dsimp only;by_cases hji:j=i
   ·subst hji;rw [List.getElem_set_self,hx];exact hEid hlt
   ·rw [List.getElem_set_ne hji];exact hEid hiE
  ·have e:(E.setRun j x).pure={ E.pure with runs:=E.pure.runs.set j x.1 }:=by simp [WD.pure,List.map_set]
   dsimp only;rw [e,hEp,←unwTo_succ id j _ hjD,←hEg,hx];rfl
 ·have hge:j=D2.runs.length:=by simp at c;omega
  refine⟨rfl,S3.on E,⟨⟨hS3.room,hS3.first,hS3.size⟩,?_⟩,?_⟩
  ·show { E.pure with queue:=ringL S3.room S3.first S3.size }=_;rw [hEp,hge,hrg3,hid2,←pure_len,unwTo_all];rw [←hS.pure,hD2,hD1,hx4,hx0];simp [WD.pure,fallA,List.map_set]
  ·rw [hl2e,hl0] at hEo;rw [hx0] at hEo;have:Own h11 (.row R4::.row R5::(wAtoms E++(.row (scRow g (S3.on E))::atL S.D.runs[i]::atW S.D.runs[i]::l))):=hEo.perm (perm_of fun x=>by simp only [List.count_append,List.count_cons];omega);exact this.tail.tail
def PW.Ids (w:PW):Prop:=∀i (hi:i<w.runs.length),w.runs[i].id=(i:Int)+1
theorem Ids.set {L:List RunD} (h:∀i (hi:i<L.length),L[i].id=(i:Int)+1) (i:Nat) (hi:i<L.length) (y:RunD) (hy:y.id=L[i].id):∀j (hj:j<(L.set i y).length),(L.set i y)[j].id=(j:Int)+1:=by
 intro j hj;rw [List.length_set] at hj;by_cases hji:i=j
 ·subst hji;rw [List.getElem_set_self,hy];exact h i hi
 ·rw [List.getElem_set_ne hji];exact h j hj
theorem giveP_ids {w:PW} (h:w.Ids) (id:Int) (v:Int×Int):(giveP w id v).Ids:=by
 unfold giveP
 split
 ·split
  ·rename_i d hd
   obtain⟨hi,rfl⟩:=List.getElem?_eq_some_iff.1 hd;unfold giveAt
   split
   ·exact h
   ·split
    ·exact Ids.set h _ hi _ rfl
    ·exact Ids.set h _ hi _ rfl
  ·exact h
 ·exact h
theorem linkStep_ids {s:PW×List Int} (h:s.1.Ids) (id:Int) (v:Int×Int) (k:Int):(linkStep id v s k).1.Ids:=by
 unfold linkStep
 split
 ·exact h
 ·rename_i d hd
  obtain⟨hi,rfl⟩:=List.getElem?_eq_some_iff.1 hd;have h1:PW.Ids { s.1 with runs:=s.1.runs.set (k-1).toNat { s.1.runs[(k-1).toNat] with links:=lessP s.1.runs[(k-1).toNat].links id } }:=Ids.set h _ hi _ rfl
  split
  ·exact h1
  ·split
   ·exact giveP_ids h1 _ _
   ·exact h1
theorem links_ids (id:Int) (v:Int×Int):∀(L:List Int) (s:PW×List Int),s.1.Ids→(L.foldl (linkStep id v) s).1.Ids
 |[],_,h=>h
 |k::L,_,h=>links_ids id v L _ (linkStep_ids h id v k)
theorem gives_ids (v:Int×Int):∀(L:List Int) (w:PW),w.Ids→(L.foldl (fun w k=>giveP w k v) w).Ids
 |[],_,h=>h
 |k::L,_,h=>gives_ids v L _ (giveP_ids h k v)
theorem fallA_ids {w:PW} (h:w.Ids) (i:Nat) (hi:i<w.runs.length) (id:Int) (v:Int×Int):(fallA w i id w.runs[i] v).Ids:=by
 intro j hj;have e:(fallA w i id w.runs[i] v).runs=(w.runs.set i (w.runs[i].fall v)).map (RunD.unwatch id):=rfl;have hj':j<(w.runs.set i (w.runs[i].fall v)).length:=by rw [e,List.length_map] at hj;exact hj
 have:=Ids.set h i hi (w.runs[i].fall v) rfl j hj';simp only [e,List.getElem_map];exact this
theorem oneP_ids {w:PW} (h:w.Ids) (i:Nat) (hi:i<w.runs.length) (id:Int) (v:Int×Int):(oneP w i id w.runs[i] v).1.Ids:=gives_ids _ _ _ (links_ids _ _ _ _ (fallA_ids h i hi id v))
theorem linkStep_app (id:Int) (v:Int×Int) (w:PW) (Q:List Int) (k:Int):linkStep id v (w,Q) k=((linkStep id v (w,[]) k).1,Q++(linkStep id v (w,[]) k).2):=by
 unfold linkStep;dsimp only
 cases w.runs[(k-1).toNat]? with
 |none=>simp
 |some d =>
  dsimp only
  cases normalP v<;>cases d.trap<;>simp
theorem links_app (id:Int) (v:Int×Int):∀(L:List Int) (w:PW) (Q:List Int),L.foldl (linkStep id v) (w,Q)=((L.foldl (linkStep id v) (w,[])).1,Q++(L.foldl (linkStep id v) (w,[])).2)
 |[],w,Q=>by simp
 |k::L,w,Q=>by
  rw [List.foldl_cons,List.foldl_cons,linkStep_app id v w Q k];have h1:=links_app id v L (linkStep id v (w,[]) k).1 (Q++(linkStep id v (w,[]) k).2);have h2:=links_app id v L (linkStep id v (w,[]) k).1 (linkStep id v (w,[]) k).2;rw [h1];have e:linkStep id v (w,[]) k=((linkStep id v (w,[]) k).1,(linkStep id v (w,[]) k).2):=rfl;rw [e,h2];simp
theorem PW.Wk.room {w:PW} {B:Nat} (hw:w.Wk B) (i:Nat) (hi:i<w.runs.length) (hs:w.runs[i].st≠1):w.queue.length<6:=by
 have hn:((i:Int)+1)∉w.queue:=fun h=>by
  obtain⟨j,e,d,hd,h1⟩:=hw.q2 _ h;have:i=j:=by omega
  subst this;rw [List.getElem?_eq_getElem hi] at hd
  cases hd
  exact hs h1
 have h6:=hw.runs;have:=nodup_len 6 (((i:Int)+1)::w.queue) (List.nodup_cons.2 ⟨hn,hw.q1⟩) fun x hx=>by
  rcases List.mem_cons.1 hx with rfl|hx
  ·omega
  ·obtain⟨j,e,d,hd,_⟩:=hw.q2 _ hx;have:=(List.getElem?_eq_some_iff.1 hd).1;omega
 rw [List.length_cons] at this;omega
theorem SD.Of.runs {S:SD} {w:PW} (h:S.Of w):w.runs=S.D.runs.map (·.1):=by rw [←h.pure];rfl
theorem SD.Of.len {S:SD} {w:PW} (h:S.Of w):w.runs.length=S.D.runs.length:=by rw [h.runs,List.length_map]
theorem SD.Of.get {S:SD} {w:PW} (h:S.Of w) (i:Nat) (hi:i<S.D.runs.length) (hj:i<w.runs.length):w.runs[i]=S.D.runs[i].1:=by simp only [h.runs,List.getElem_map]
theorem SD.Of.give {S:SD} {w:PW} {B:Nat} (h:S.Of w) (hw:w.Wk B) (i:Nat) (hi:i<S.D.runs.length) (hs:S.D.runs[i].1.st=2):S.size<6∧∃k:Nat,S.D.runs[i].1.pl=k∧k<S.D.code.length:=by
 have hl:=h.len;have e:=h.get i hi (by omega);refine⟨?_,?_⟩
 ·rw [h.size];exact hw.room i (by omega) (by rw [e,hs];decide)
 ·obtain⟨k,hk1,hk2⟩:=hw.place w.runs[i] (List.getElem_mem _);refine⟨k,by rw [←e];exact hk1,?_⟩;have ec:w.code=S.D.code:=by rw [←h.pure];rfl
  rw [←ec];exact hk2
theorem isNormal_con (v:Int×Int) (h:Hp):Con Tryz.prog 64 #[.agg #[.int .i64 v.1,.int .i64 v.2]] h fun r h'=>r=.bool (normalP v)∧h'=h:=by
 refine Con.of_W (tb:=tbF) (args:=[.agg #[.int .i64 v.1,.int .i64 v.2]]) Tryz.func64 rfl Tryz.results64 Tryz.ntmps64 (by simp) (Tryz.call64 _) (tm:=[(0,.a [.int .i64 v.1,.int .i64 v.2])]) rfl ?_;refine vc_ok ⟨tbF_ok,_,Tryz.func64,Tryz.results64,Tryz.ntmps64⟩ 400 _ _ _ _ ?_;conv=>whnf
 refine Ext.eqV rfl rfl rfl ?_;conv=>whnf
 exact⟨rfl,rfl⟩
abbrev fAll (gf g:Nat) (v:Int×Int) (s:FSt) (l:List Atom):List Atom:=fCore gf g v s++(s.q.flatMap (clAt gf)++l)
abbrev FSt.ids (s:FSt):List Int:=s.q.map (·.2.2)
theorem FSt.came_le (s:FSt):s.came.length+s.turned.length=s.q.length:=by simp [FSt.q];omega
theorem fAll_push {h:Hp} {gf g:Nat} {v:Int×Int} {s s':FSt} {x:ClD} {A l:List Atom} (e:s'.q=s.q++[x]) (o:Own h (fCore gf g v s'++(clAt gf x++(s.q.flatMap (clAt gf)++(A++l))))):Own h (A++fAll gf g v s' l):=o.perm (perm_of fun y=>by
 simp only [fAll,e,List.flatMap_append,List.flatMap_cons,List.flatMap_nil,List.append_nil,List.count_append];omega)
theorem unlink_con (gf g:Nat) (S:SD) (w:PW) (B:Nat) (hB:B<10000) (hS:S.Of w) (hw:w.Wk B) (hI:w.Ids) (v:Int×Int) (s:FSt) (hq:s.q.length<900) (m:Nat) (hm:m<S.D.runs.length) (k:Int) (hk:k=(m:Int)+1) (id:Int) (hid:okV (3,id)=true) (gr:Nat) (hra:S.D.ra=some ⟨gr,0,none⟩) (h:Hp) (l:List Atom) (ho:Own h (wAtoms S.D++(.row (scRow g S)::fAll gf g v s l))) :
  Con Tryz.prog 158 #[.pointer (some ⟨gf,0,none⟩),.pointer (some ⟨gr,0+m*13,none⟩),.int .i64 id] h fun r h'=>r=.tuple #[]∧∃(S':SD) (s':FSt),S'.Of (linkStep id v (w,s.ids) k).1∧s'.ids=(linkStep id v (w,s.ids) k).2∧Own h' (wAtoms S'.D++(.row (scRow g S')::fAll gf g v s' l)):=by
 have hlen:=hS.len;have hmw:m<w.runs.length:=by omega
 have hget:=hS.get m hm hmw;have hmt:(k-1).toNat=m:=by omega
 have hL:S.D.runs[m].1.links.length<100000:=by
  have:=hw.linksB w.runs[m] (List.getElem_mem _);rw [hget] at this;omega
 have hkid:S.D.runs[m].1.id=k:=by rw [←hget,hI m hmw,hk]
 refine Con.of_W (tb:=tbF) (args:=[.pointer (some ⟨gf,0,none⟩),.pointer (some ⟨gr,0+m*13,none⟩),.int .i64 id]) Tryz.func158 rfl Tryz.results158 Tryz.ntmps158 (by simp) (Tryz.call158 _) (tm:=[(0,.v (.pointer (some ⟨gf,0,none⟩))),(1,.v (.pointer (some ⟨gr,0+m*13,none⟩))),(2,.v (.int .i64 id))]) rfl ?_;refine vc_ok ⟨tbF_ok,_,Tryz.func158,Tryz.results158,Tryz.ntmps158⟩ 400 _ _ _ _ ?_;conv=>whnf
 refine Ext.loadRunCell (D:=S.D) rfl ⟨rfl,rfl⟩ rfl (ho.rowOk (by simp [wAtoms])) (rv_same hra) hm 7 (by omega) rfl (.slice S.D.runs[m].2.a2 S.D.runs[m].1.links.length S.D.runs[m].2.k2) rfl ?_;conv=>whnf
 refine(listWithout_con S.D.runs[m].2.a2 S.D.runs[m].2.k2 S.D.runs[m].1.links hL id h _ (w_lnk (E:=S.D) (w_open ho m hm))).mono ?_;rintro r h1 ⟨rfl,ho1⟩;conv=>whnf
 obtain⟨x,hx⟩:∃x:RunD×RunP,x=({ S.D.runs[m].1 with links:=lessP S.D.runs[m].1.links id },S.D.runs[m].2):=⟨_,rfl⟩;have ho2:Own h1 (.row (rowR S.D.rv S.D.runs)::(runRows x++wOth S.D m (.row (scRow g S)::fAll gf g v s l))):=by
  refine w_lnkR ?_;subst hx;exact ho1
 refine Ext.storeRunCell rfl rfl rfl hm (rv_same hra) 7 (by omega) (.slice S.D.runs[m].2.a2 (lessP S.D.runs[m].1.links id).length S.D.runs[m].2.k2) rfl rfl x (by subst hx;rfl) rfl ho2 rfl rfl fun h2 ho3=>?_
 conv=>whnf
 obtain⟨S1,hS1⟩:∃S1:SD,S1=S.on (S.D.setRun m x):=⟨_,rfl⟩;obtain⟨w1,hw1⟩:∃w1:PW,w1={ w with runs:=w.runs.set m { w.runs[m] with links:=lessP w.runs[m].links id } }:=⟨_,rfl⟩;have hOf1:S1.Of w1:=by
  refine⟨by rw [hS1];exact⟨hS.ok.room,hS.ok.first,hS.ok.size⟩,?_⟩;have e:w.runs[m]=S.D.runs[m].1:=hget;subst hS1 hw1 hx;rw [e,←hS.pure];simp [WD.pure,List.map_set]
 have hWk1:w1.Wk B:=by rw [hw1];exact hw.less m hmw id
 have hn1:S1.D.runs.length≤1000:=by have:=hOf1.len;have:=hWk1.runs;omega
 have hra1:S1.D.ra=some ⟨gr,0,none⟩:=by rw [hS1];exact hra
 have hm1:m<S1.D.runs.length:=by rw [hS1];show m<(S.D.runs.set m x).length;rw [List.length_set];exact hm
 have hx1:S1.D.runs[m]=x:=by simp [hS1]
 have ho4:Own h2 (wAtoms S1.D++(.row (scRow g S1)::fAll gf g v s l)):=by rw [hS1];exact sc_turn ho3
 have hstep:linkStep id v (w,s.ids) k=if normalP v then (w1,s.ids) else if w.runs[m].trap then (giveP w1 k (3,id),s.ids) else (w1,s.ids++[k]):=by
  unfold linkStep;rw [hmt,List.getElem?_eq_getElem hmw,hw1]
 have ht1:x.1.trap=w.runs[m].trap:=by rw [hx,hget]
 have hxid:x.1.id=k:=by rw [hx];exact hkid
 clear ho3 ho2 ho1 ho;refine Ext.load tbF_ok rfl rfl (ho4.rowOk (r:=faRow gf (faC g v s.cv s.tv)) (by simp)) rfl rfl (by show 0+1+2≤1*5;omega) (.agg #[.int .i64 v.1,.int .i64 v.2]) (.inl ⟨rfl,rfl⟩) ?_;conv=>whnf
 refine(isNormal_con v h2).mono ?_;rintro r h3 ⟨rfl,rfl⟩;conv=>whnf
 refine⟨fun c=>?_,fun c=>?_⟩<;>conv=>whnf
 ·exact⟨rfl,S1,s,by rw [hstep,if_pos c];exact hOf1,by rw [hstep,if_pos c],ho4⟩
 have hc:¬normalP v=true:=by rw [c];exact Bool.false_ne_true
 refine Ext.loadRunCell (D:=S1.D) rfl ⟨rfl,rfl⟩ rfl (ho4.rowOk (by simp [wAtoms])) (rv_same hra1) hm1 9 (by omega) rfl (.bool x.1.trap) (by rw [hx1];rfl) ?_;conv=>whnf
 refine⟨fun c2=>?_,fun c2=>?_⟩<;>conv=>whnf
 ·have hqf:RowOk h3 (faRow gf (faC g v s.cv s.tv)):=ho4.rowOk (by simp);have hpf:RowOk (keepB h3 [gf]) (faRow gf (faC g v s.cv s.tv)):=RowOk.keep hqf rfl (by simp);refine W.draw [(0,true),(1,true),(2,true),(3,true),(4,true),(5,true),(6,true),(8,true),(9,true),(7,false),(10,false)] [] (some (keepB h3 [gf])) 99 (by kernel_rfl) rfl (by kernel_rfl) mixed rfl (fun g e=>by cases e;exact keep_self _ _) ?_;refine vc_ok ⟨tbF_ok,_,Tryz.func158,Tryz.results158,Tryz.ntmps158⟩ 400 _ _ _ _ ?_;conv=>whnf
  refine Rd.load tbF_ok rfl rfl hpf rfl rfl (by show 0+1≤1*5;omega) (.pointer (some ⟨g,0,none⟩)) (.inr ⟨rfl,rfl,rfl⟩) ?_;conv=>whnf
  refine Ext.loadRunCell (D:=S1.D) rfl ⟨rfl,rfl⟩ rfl (ho4.rowOk (by simp [wAtoms])) (rv_same hra1) hm1 0 (by omega) rfl (.int .i64 k) (by rw [hx1,←hxid];rfl) ?_;conv=>whnf
  refine⟨keep_self _ _,?_⟩;conv=>whnf
  refine(sgive_con g S1 w1 hOf1 hn1 k (3,id) hid (fun i hi hs=>hOf1.give hWk1 i hi hs) h3 _ ho4).mono ?_;rintro r h4 ⟨rfl,S2,hOf2,ho5⟩;have kk:(keepB h3 [gf]).le h4:=keep_same fun b hb=>by
   rw [List.mem_singleton.1 hb,one_at (ho5.rowOk (r:=faRow gf (faC g v s.cv s.tv)) (by simp)),one_at hqf]
  conv=>whnf
  refine⟨kk,?_⟩;conv=>whnf
  refine⟨rfl,S2,s,?_,?_,ho5⟩
  ·rw [hstep,if_neg hc,if_pos (by rw [←ht1];exact c2)];exact hOf2
  ·rw [hstep,if_neg hc,if_pos (by rw [←ht1];exact c2)]
 ·have hnt:¬w.runs[m].trap=true:=by rw [←ht1,c2];exact Bool.false_ne_true
  refine Ext.loadRunCell (D:=S1.D) rfl ⟨rfl,rfl⟩ rfl (ho4.rowOk (by simp [wAtoms])) (rv_same hra1) hm1 0 (by omega) rfl (.int .i64 k) (by rw [hx1,←hxid];rfl) ?_;conv=>whnf
  refine(comes_con gf g v s (by have:=s.came_le;omega) k h3 (s.q.flatMap (clAt gf)++(wAtoms S1.D++(.row (scRow g S1)::l))) (ho4.perm (perm_of fun y=>by simp only [fAll,List.count_append,List.count_cons];omega))).mono ?_;rintro r h4 ⟨rfl,s',bf,bi,e,ho5⟩;conv=>whnf
  refine⟨rfl,S1,s',?_,?_,?_⟩
  ·rw [hstep,if_neg hc,if_neg hnt];exact hOf1
  ·rw [hstep,if_neg hc,if_neg hnt];simp [FSt.ids,e]
  ·have:Own h4 ((wAtoms S1.D++[.row (scRow g S1)])++fAll gf g v s' l):=fAll_push e (by rw [List.append_assoc];exact ho5);rw [List.append_assoc] at this;exact this
theorem fAll_in {h:Hp} {gf g:Nat} {v:Int×Int} {s:FSt} {A l:List Atom} {a b:Atom} (o:Own h (A++(a::b::fAll gf g v s l))):Own h (A++fAll gf g v s (a::b::l)):=o.perm (perm_of fun y=>by
 simp only [fAll,List.count_append,List.count_cons];omega)
theorem fAll_out {h:Hp} {gf g:Nat} {v:Int×Int} {s:FSt} {A l:List Atom} {a b:Atom} (o:Own h (A++fAll gf g v s (a::b::l))):Own h (A++fAll gf g v s l) :=
 Own.tail (Own.tail (x:=a) (l:=b::(A++fAll gf g v s l)) (o.perm (perm_of fun y=>by
  simp only [fAll,List.count_append,List.count_cons];omega)))
theorem okRun {i:Nat} (h:i<6):okV (3,(i:Int)+1)=true:=by
 unfold okV;simp;omega
theorem end_con (gf g:Nat) (S:SD) (w:PW) (B:Nat) (hS:S.Of w) (hw:w.Wk B) (hI:w.Ids) (v:Int×Int) (s:FSt) (hq:s.q.length+B<900) (id:Int) (h:Hp) (l:List Atom) (ho:Own h (wAtoms S.D++(.row (scRow g S)::fAll gf g v s l))) :
  Con Tryz.prog 115 #[.pointer (some ⟨gf,0,none⟩),.int .i64 id] h fun r h'=>r=.tuple #[]∧∃(S':SD) (s':FSt),Own h' (wAtoms S'.D++(.row (scRow g S')::fAll gf g v s' l)) ∧
   ((S'.Of w∧s'.ids=s.ids∧(¬(1≤id∧id≤(w.runs.length:Int))∨∃(i:Nat) (hi:i<w.runs.length),id=(i:Int)+1∧w.runs[i].st=3))∨∃(i:Nat) (hi:i<w.runs.length),id=(i:Int)+1∧w.runs[i].st≠3∧S'.Of (oneP w i id w.runs[i] v).1∧s'.ids=s.ids++(oneP w i id w.runs[i] v).2):=by
 have hlen:=hS.len;have hn6:=hw.runs;have hn:S.D.runs.length≤1000:=by omega
 refine Con.of_W (tb:=tbF) (args:=[.pointer (some ⟨gf,0,none⟩),.int .i64 id]) Tryz.func115 rfl Tryz.results115 Tryz.ntmps115 (by simp) (Tryz.call115 _) (tm:=[(0,.v (.pointer (some ⟨gf,0,none⟩))),(1,.v (.int .i64 id))]) rfl ?_;refine vc_ok ⟨tbF_ok,_,Tryz.func115,Tryz.results115,Tryz.ntmps115⟩ 400 _ _ _ _ ?_;conv=>whnf
 refine Ext.load tbF_ok rfl rfl (ho.rowOk (r:=faRow gf (faC g v s.cv s.tv)) (by simp)) rfl rfl (by show 0+0+1≤1*5;omega) (.pointer (some ⟨g,0,none⟩)) (.inr ⟨rfl,rfl,rfl⟩) ?_;conv=>whnf
 refine(runOf_con g S hS.ok hn id h (ho.rowOk (by simp)) (ho.rowOk (by simp [wAtoms]))).mono ?_;rintro r h1 ⟨⟨gr,i,hid,hi,hra,rfl⟩|⟨hno,rfl⟩,rfl⟩;rotate_left
 ·conv=>whnf
  refine Ext.eqlP rfl rfl rfl ?_;conv=>whnf
  refine⟨fun e=>(by cases e),fun _=>?_⟩;conv=>whnf
  exact⟨rfl,S,s,ho,.inl ⟨hS,rfl,.inl (by omega)⟩⟩
 conv=>whnf
 refine Ext.eqlP rfl rfl rfl ?_;conv=>whnf
 refine⟨fun _=>?_,fun e=>(by cases e)⟩;conv=>whnf
 have hiw:i<w.runs.length:=by omega
 have hget:=hS.get i hi hiw;refine Ext.loadRunCell (D:=S.D) rfl ⟨rfl,rfl⟩ rfl (ho.rowOk (by simp [wAtoms])) (rv_same hra) hi 5 (by omega) rfl (.int .i64 S.D.runs[i].1.st) rfl ?_;conv=>whnf
 refine⟨fun c=>?_,fun c=>?_⟩<;>conv=>whnf
 ·exact⟨rfl,S,s,ho,.inl ⟨hS,rfl,.inr ⟨i,hiw,hid,by rw [hget];simpa using c⟩⟩⟩
 have hst:w.runs[i].st≠3:=by rw [hget];simpa using c
 have hidr:S.D.runs[i].1.id=id:=by rw [←hget,hI i hiw,hid]
 have hwt:∀x∈S.D.runs,x.1.wat.length<100000:=fun x hx=>by
  have:x.1∈w.runs:=by rw [hS.runs];exact List.mem_map.2 ⟨x,hx,rfl⟩
  have:=hw.watB x.1 this;omega
 have hv3:okV (3,id)=true:=by rw [hid];exact okRun (by omega)
 refine W.draw [(0,true),(1,true),(2,true),(3,true),(4,true),(5,true),(6,true),(7,true),(8,true),(9,true)] [] (some h1) 99 (by kernel_rfl) rfl (by kernel_rfl) mixed rfl (fun g e=>by cases e;exact Hp.le_refl _) ?_;refine vc_ok ⟨tbF_ok,_,Tryz.func115,Tryz.results115,Tryz.ntmps115⟩ 400 _ _ _ _ ?_;conv=>whnf
 refine Rd.loadRunCell (D:=S.D) rfl ⟨rfl,rfl⟩ rfl (ho.rowOk (by simp [wAtoms])) (rv_same hra) hi 7 (by omega) rfl (.slice S.D.runs[i].2.a2 S.D.runs[i].1.links.length S.D.runs[i].2.k2) rfl ?_;conv=>whnf
 refine Rd.loadRunCell (D:=S.D) rfl ⟨rfl,rfl⟩ rfl (ho.rowOk (by simp [wAtoms])) (rv_same hra) hi 8 (by omega) rfl (.slice S.D.runs[i].2.a3 S.D.runs[i].1.wat.length S.D.runs[i].2.k3) rfl ?_;conv=>whnf
 have hqf:RowOk h1 (faRow gf (faC g v s.cv s.tv)):=ho.rowOk (by simp);have hpf:RowOk (keepB h1 [gf]) (faRow gf (faC g v s.cv s.tv)):=RowOk.keep hqf rfl (by simp);refine W.draw [(0,true),(1,true),(2,true),(3,true),(4,true),(5,true),(6,true),(7,true),(8,true),(9,false)] [] (some (keepB h1 [gf])) 99 (by kernel_rfl) rfl (by kernel_rfl) mixed rfl (fun g e=>by cases e;exact keep_self _ _) ?_;refine vc_ok ⟨tbF_ok,_,Tryz.func115,Tryz.results115,Tryz.ntmps115⟩ 400 _ _ _ _ ?_;conv=>whnf
 refine Rd.load tbF_ok rfl rfl hpf rfl rfl (by show 0+0+1≤1*5;omega) (.pointer (some ⟨g,0,none⟩)) (.inr ⟨rfl,rfl,rfl⟩) ?_;conv=>whnf
 refine Rd.load tbF_ok rfl rfl hpf rfl rfl (by show 0+1+2≤1*5;omega) (.agg #[.int .i64 v.1,.int .i64 v.2]) (.inl ⟨rfl,rfl⟩) ?_;conv=>whnf
 refine(leave_con g S w hS hn hwt i hi id hidr gr hra v h1 _ ho).mono ?_;rintro r h2 ⟨rfl,S1,hS1,ho1⟩;have kk:(keepB h1 [gf]).le h2:=keep_same fun b hb=>by
  rw [List.mem_singleton.1 hb,one_at (ho1.rowOk (r:=faRow gf (faC g v s.cv s.tv)) (by simp)),one_at hqf]
 conv=>whnf
 refine⟨kk,?_⟩;conv=>whnf
 obtain⟨y,hy⟩:∃y,y=S.D.runs[i]:=⟨_,rfl⟩;rw [←hy] at ho1;have hy1:y.1=w.runs[i]:=by rw [hy,hget]
 rw [←hy];have ho2:Own h2 (wAtoms S1.D++(.row (scRow g S1)::fAll gf g v s (atL y::atW y::l))):=by
  have:Own h2 ((wAtoms S1.D++[.row (scRow g S1)])++fAll gf g v s (atL y::atW y::l)):=fAll_in (by rw [List.append_assoc];exact ho1);rw [List.append_assoc] at this;exact this
 have hwA:(fallA w i id w.runs[i] v).Wk B:=by rw [hid];exact fallA_wk hw i hiw v
 have hIA:(fallA w i id w.runs[i] v).Ids:=fallA_ids hI i hiw id v;have hLB:y.1.links.length≤B:=by rw [hy1];exact hw.linksB _ (List.getElem_mem _)
 have hWB:y.1.wat.length≤B:=by rw [hy1];exact hw.watB _ (List.getElem_mem _)
 rw [←hget,←hy1] at hS1;rw [←hy1] at hwA hIA;have hnA:(fallA w i id y.1 v).runs.length=w.runs.length:=fallA_len _ _ _ _ _;refine W.cut [(46,.v (.int .i64 (0:Nat))),(45,.v (.int .i64 (y.1.links.length:Nat))),(44,.v (.slice y.2.a2 y.1.links.length y.2.k2)),(6,.v (.slice y.2.a3 y.1.wat.length y.2.k3)),(1,.v (.int .i64 id)),(0,.v (.pointer (some ⟨gf,0,none⟩)))] [] [] ⟨rfl,rfl,rfl,rfl,rfl,rfl,trivial⟩ rfl rfl ⟨_,rfl⟩ ?_;refine W.loop (α:=Nat×SD×FSt) (fun x=>[(46,.v (.int .i64 (x.1:Nat))),(45,.v (.int .i64 (y.1.links.length:Nat))),(44,.v (.slice y.2.a2 y.1.links.length y.2.k2)),(6,.v (.slice y.2.a3 y.1.wat.length y.2.k3)),(1,.v (.int .i64 id)),(0,.v (.pointer (some ⟨gf,0,none⟩)))]) (fun _=>[])
  (fun x h'=>x.1≤y.1.links.length∧x.2.1.Of ((y.1.links.take x.1).foldl (linkStep id v) (fallA w i id y.1 v,s.ids)).1∧x.2.2.ids=((y.1.links.take x.1).foldl (linkStep id v) (fallA w i id y.1 v,s.ids)).2∧Own h' (wAtoms x.2.1.D++(.row (scRow g x.2.1)::fAll gf g v x.2.2 (atL y::atW y::l)))) (fun x=>y.1.links.length-x.1) ?_ (0,S1,s) h2 ⟨Nat.zero_le _,hS1,rfl,ho2⟩
 rintro⟨j,T,t⟩ h3 ⟨hj,hT,ht,ho3⟩ ih;dsimp only at hj hT ht ho3 ⊢;obtain⟨Pj,hPj⟩:∃P,P=(y.1.links.take j).foldl (linkStep id v) (fallA w i id y.1 v,s.ids):=⟨_,rfl⟩;rw [←hPj] at hT ht;have hlk:=links_wk id v B (y.1.links.take j) (fallA w i id y.1 v,s.ids) hwA;rw [←hPj] at hlk;have hIj:Pj.1.Ids:=by rw [hPj];exact links_ids id v _ _ hIA
 have hTn:T.D.runs.length=w.runs.length:=by rw [←hT.len,hlk.2.1,hnA]
 have htq:t.q.length+B<900+B:=by
  have e:t.ids.length=t.q.length:=by simp
  have e2:s.ids.length=s.q.length:=by simp
  have h3:=hlk.2.2;rw [←ht,e] at h3;dsimp only at h3;rw [e2,List.length_take] at h3;omega
 refine vc_ok ⟨tbF_ok,_,Tryz.func115,Tryz.results115,Tryz.ntmps115⟩ 400 _ _ _ _ ?_;conv=>whnf
 refine⟨fun c=>?_,fun c=>?_⟩<;>conv=>whnf
 ·have hlt:j<y.1.links.length:=by simp at c;omega
  have hrl:RowOk h3 (rowI (.slice y.2.a2 y.1.links.length y.2.k2) y.1.links):=ho3.rowOk (by simp [atL]);obtain⟨gl,hgl⟩:=row_some hrl (by omega);have hlv:Value.slice y.2.a2 y.1.links.length y.2.k2=.slice (some ⟨gl,0,none⟩) y.1.links.length y.2.k2:=by rw [hgl]
  refine Ext.index slInt.u slInt.size rfl (by exact hlv) rfl j rfl hlt ?_;conv=>whnf
  refine Ext.loadInt rfl hrl hlv hlt rfl ?_;conv=>whnf
  refine Ext.load tbF_ok rfl rfl (ho3.rowOk (r:=faRow gf (faC g v t.cv t.tv)) (by simp)) rfl rfl (by show 0+0+1≤1*5;omega) (.pointer (some ⟨g,0,none⟩)) (.inr ⟨rfl,rfl,rfl⟩) ?_;conv=>whnf
  refine(runOf_con g T hT.ok (by omega) y.1.links[j] h3 (ho3.rowOk (by simp)) (ho3.rowOk (by simp [wAtoms]))).mono ?_;have hrange:=hw.links w.runs[i] (List.getElem_mem _) y.1.links[j] (by rw [←hy1];exact List.getElem_mem _);rintro r h4 ⟨⟨gr2,m,hmid,hm,hra2,rfl⟩|⟨hno,rfl⟩,rfl⟩;rotate_left
  ·exfalso;omega
  conv=>whnf
  refine(unlink_con gf g T Pj.1 B (by omega) hT hlk.1 hIj v t (by omega) m hm y.1.links[j] hmid id hv3 gr2 hra2 h4 _ ho3).mono ?_;rintro r h5 ⟨rfl,T2,t2,hT2,ht2,ho5⟩;conv=>whnf
  have hw1:IntKind.i64.wrap ((j:Int)+1)=((j+1:Nat):Int):=by rw [wrapN _ (by omega) (by omega)];omega
  rw [hw1];have e:(y.1.links.take (j+1)).foldl (linkStep id v) (fallA w i id y.1 v,s.ids)=linkStep id v (Pj.1,t.ids) y.1.links[j]:=by
   rw [List.take_succ_eq_append_getElem hlt,List.foldl_append,←hPj,ht];rfl
  refine W.back (ih (j+1,T2,t2) h5 ⟨hlt,by dsimp only;rw [e];exact hT2,by dsimp only;rw [e];exact ht2,ho5⟩ (by dsimp only;omega)) [] (by exact⟨rfl,rfl,rfl,rfl,rfl,rfl,trivial⟩) rfl rfl
 ·have hge:j=y.1.links.length:=by simp at c;omega
  rw [hge,List.take_length] at hPj;have happ:=links_app id v y.1.links (fallA w i id y.1 v) s.ids;rw [←hPj] at happ;refine W.cut [(62,.v (.int .i64 (0:Nat))),(61,.v (.int .i64 (y.1.wat.length:Nat))),(60,.v (.slice y.2.a3 y.1.wat.length y.2.k3)),(1,.v (.int .i64 id)),(0,.v (.pointer (some ⟨gf,0,none⟩)))] [] [] ⟨rfl,rfl,rfl,rfl,rfl,trivial⟩ rfl rfl ⟨_,rfl⟩ ?_;refine W.loop (α:=Nat×SD) (fun x=>[(62,.v (.int .i64 (x.1:Nat))),(61,.v (.int .i64 (y.1.wat.length:Nat))),(60,.v (.slice y.2.a3 y.1.wat.length y.2.k3)),(1,.v (.int .i64 id)),(0,.v (.pointer (some ⟨gf,0,none⟩)))]) (fun _=>[])
   (fun x h'=>x.1≤y.1.wat.length∧x.2.Of ((y.1.wat.take x.1).foldl (fun w k=>giveP w k (3,id)) Pj.1)∧Own h' (wAtoms x.2.D++(.row (scRow g x.2)::fAll gf g v t (atL y::atW y::l)))) (fun x=>y.1.wat.length-x.1) ?_ (0,T) h3 ⟨Nat.zero_le _,hT,ho3⟩
  rintro⟨k,U⟩ h6 ⟨hk,hU,ho6⟩ ih2;dsimp only at hk hU ho6 ⊢;obtain⟨Wk,hWk⟩:∃W,W=(y.1.wat.take k).foldl (fun w k=>giveP w k (3,id)) Pj.1:=⟨_,rfl⟩;rw [←hWk] at hU;have hgk:=gives_wk (3,id) B (y.1.wat.take k) Pj.1 hlk.1;rw [←hWk] at hgk;refine vc_ok ⟨tbF_ok,_,Tryz.func115,Tryz.results115,Tryz.ntmps115⟩ 400 _ _ _ _ ?_;conv=>whnf
  refine⟨fun c2=>?_,fun c2=>?_⟩<;>conv=>whnf
  ·have hlt:k<y.1.wat.length:=by simp at c2;omega
   have hrl:RowOk h6 (rowI (.slice y.2.a3 y.1.wat.length y.2.k3) y.1.wat):=ho6.rowOk (by simp [atW]);obtain⟨gl,hgl⟩:=row_some hrl (by omega);have hlv:Value.slice y.2.a3 y.1.wat.length y.2.k3=.slice (some ⟨gl,0,none⟩) y.1.wat.length y.2.k3:=by rw [hgl]
   refine Ext.index slInt.u slInt.size rfl (by exact hlv) rfl k rfl hlt ?_;conv=>whnf
   refine Ext.loadInt rfl hrl hlv hlt rfl ?_;conv=>whnf
   refine Ext.load tbF_ok rfl rfl (ho6.rowOk (r:=faRow gf (faC g v t.cv t.tv)) (by simp)) rfl rfl (by show 0+0+1≤1*5;omega) (.pointer (some ⟨g,0,none⟩)) (.inr ⟨rfl,rfl,rfl⟩) ?_;conv=>whnf
   refine(sgive_con g U Wk hU (by have:=hU.len;have:=hgk.1.runs;omega) y.1.wat[k] (3,id) hv3 (fun i hi hs=>hU.give hgk.1 i hi hs) h6 _ ho6).mono ?_;rintro r h7 ⟨rfl,U2,hU2,ho7⟩;conv=>whnf
   have hw1:IntKind.i64.wrap ((k:Int)+1)=((k+1:Nat):Int):=by rw [wrapN _ (by omega) (by omega)];omega
   rw [hw1];refine W.back (ih2 (k+1,U2) h7 ⟨hlt,by dsimp only;rw [List.take_succ_eq_append_getElem hlt,List.foldl_append,←hWk];exact hU2,ho7⟩ (by dsimp only;omega)) [] (by exact⟨rfl,rfl,rfl,rfl,rfl,trivial⟩) rfl rfl
  ·have hge2:k=y.1.wat.length:=by simp at c2;omega
   rw [hge2,List.take_length] at hWk;refine⟨rfl,U,t,?_,.inr ⟨i,hiw,hid,hst,?_,?_⟩⟩
   ·have:Own h6 ((wAtoms U.D++[.row (scRow g U)])++fAll gf g v t l):=fAll_out (a:=atL y) (b:=atW y) (by rw [List.append_assoc];exact ho6);rw [List.append_assoc] at this;exact this
   ·rw [←hy1];have e:(oneP w i id y.1 v).1=Wk:=by
     rw [hWk,happ];rfl
    rw [e];exact hU
   ·rw [ht,happ,←hy1];rfl
end Go.Proofs.YtgmkmeodimmdoaaGreatDoor
