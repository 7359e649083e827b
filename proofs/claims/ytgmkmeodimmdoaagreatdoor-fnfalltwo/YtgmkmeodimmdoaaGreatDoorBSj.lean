import Derived.Test.YtgmkmeodimmdoaaGreatDoorBSi
import Derived.Test.YtgmkmeodimmdoaaGreatDoorBQl
namespace Go.Proofs.YtgmkmeodimmdoaaGreatDoor
open Go.RowKit
set_option maxRecDepth 100000
structure CodeIn (a:Option Addr) (len cap:Nat) (cb:Option (Nat×Obj)):Prop where
 room:len≤cap
 max:cap≤maxLen
 bytes:(len=0∧cb=none)∨∃b off cur e fz,a=some ⟨b,off,none⟩∧cb=some (b,.cells cur e fz)∧∃z:Nat→Int,(∀i,0≤z i∧z i≤255)∧∀i,i<len→cur[off+i]?=some (.int .u8 (z i))
def cbAtoms (cb:Option (Nat×Obj)):List Atom:=match cb with
 |none=>[]
 |some (b,o)=>[.blk b o]
def cbHp (cb:Option (Nat×Obj)):Hp:=match cb with
 |none=>fun _=>none
 |some (b,o)=>oneB b o
theorem cb_own (cb:Option (Nat×Obj)):Own (cbHp cb) (cbAtoms cb):=by
 cases cb with
 |none=>exact Own.nil _
 |some x=>exact⟨fun y hy=>by rw [show y=_ from List.mem_singleton.1 hy];exact oneB_at _ _,by simp [cbAtoms,Atom.blk?]⟩
theorem code_in {w:World} {a:Option Addr} {len cap:Nat} (h:Eld.Code0 w a len cap):∃cb,CodeIn a len cap cb∧InH (cbHp cb) w:=by
 obtain⟨h0,h1,h2⟩:=h;by_cases hl:len=0
 ·exact⟨none,⟨h0,h1,.inl ⟨hl,rfl⟩⟩,fun b o e=>by cases e⟩
 ·rcases h2 with h|⟨b,off,ha,hlt,z,hz,hc⟩
  ·exact absurd h hl
  ·have hc0:=hc 0 (by omega);obtain⟨ob,hob⟩:∃ob,w.heap[b]?=some ob:=⟨w.heap[b],by simp [hlt]⟩
   cases ob with
   |cells cur e fz =>
    refine⟨some (b,.cells cur e fz),⟨h0,h1,.inr ⟨b,off,cur,e,fz,ha,rfl,z,hz,fun i hi=>?_⟩⟩,fun k o e=>?_⟩
    ·have:=hc i hi
     rwa [cell_of_row w b (off+i) cur e fz hob] at this
    ·simp only [cbHp,oneB] at e
     split at e
     ·rename_i hk;subst hk;cases e;exact hob
     ·cases e
   |_=>simp [World.cell?,hob] at hc0
theorem open_con (a:Option Addr) (len cap:Nat) (cb:Option (Nat×Obj)) (hc:CodeIn a len cap cb) (h:Hp) (l:List Atom) (ho:Own h (cbAtoms cb++l)) :
  Con Tryz.prog 35 #[.slice a len cap] h fun r h'=>∃c:RdC,c.Ok∧c.cb=cb∧r=.pointer (some ⟨c.R,0,none⟩)∧Own h' (c.atoms 0++l):=by
 have key:∀(w:World),InH h w→∀(n:Nat),n≤2000→n≤len→∃c:RdC,c.R=w.heap.size∧c.Ok∧c.cb=cb∧c.obj 0=.cells #[.slice a n cap,.int .i64 0] 73 (0,0):=by
  intro w hw n hn hnl;rcases hc.bytes with⟨h0,e⟩|⟨b,off,cur,e,fz,ha,hcb,z,hz,hcell⟩
  ·exact⟨⟨w.heap.size,a,n,cap,73,cb⟩,rfl,⟨hn,.inl (by show n=0;omega)⟩,rfl,rfl⟩
  ·refine⟨⟨w.heap.size,a,n,cap,73,cb⟩,rfl,⟨hn,.inr ⟨b,off,cur,e,fz,ha,?_,hcb,z,hz,fun i hi=>hcell i (Nat.lt_of_lt_of_le hi hnl)⟩⟩,rfl,rfl⟩;have hB:h b=some (.cells cur e fz):=ho.ok (.blk b (.cells cur e fz)) (by simp [cbAtoms,hcb]);exact hw.lt hB
 have fin:∀(w:World),InH h w→∀(c:RdC),c.R=w.heap.size→c.Ok→c.cb=cb→∃v h',(.pointer (some ⟨w.heap.size,0,none⟩):Value)=v∧(∃c:RdC,c.Ok∧c.cb=cb∧v=.pointer (some ⟨c.R,0,none⟩)∧Own h' (c.atoms 0++l))∧InH h' (w.alloc (c.obj 0))∧Fr h w h' (w.alloc (c.obj 0)):=by
  intro w hw c hR hok hcb;have hnone:=heap_none hw;refine⟨_,h.put w.heap.size (c.obj 0),rfl,⟨c,hok,hcb,by rw [hR],?_⟩,?_,?_⟩
  ·have h1:Own (h.put w.heap.size (c.obj 0)) (.blk c.R (c.obj 0)::(cbAtoms cb++l)):=ho.add (by rw [hR];exact Hp.put_same _ _ _) (fun g e=>by cases e;rw [hR];exact hnone) (fun b e=>Hp.put_ne _ _ fun e2=>e (by subst e2;show some c.R=_;rw [hR]));have e:c.codeAt=cbAtoms cb:=by unfold RdC.codeAt cbAtoms;rw [hcb];cases cb<;>rfl
   show Own _ (.blk c.R (c.obj 0)::(c.codeAt++l));rw [e];exact h1
  ·intro b o e;by_cases hb:b=w.heap.size
   ·subst hb;rw [Hp.put_same] at e;cases e;exact heap_alloc_new w _
   ·rw [Hp.put_ne _ _ hb] at e;rw [heap_alloc_old w _ (hw.lt e)];exact hw b o e
  ·exact⟨rfl,rfl,rfl,by simp,fun b hb e=>⟨heap_alloc_old w _ hb,by rw [Hp.put_ne _ _ (by omega)];exact e⟩⟩
 refine⟨Tryz.call35 _,fun w hw=>?_⟩;by_cases hl:len≤2000
 ·obtain⟨c,hR,hok,hcb,hobj⟩:=key w hw len hl (Nat.le_refl _);refine(Eld.open_short a len cap w hl).mono fun e w' ⟨he,hw'⟩=>?_
  obtain⟨v,h',rfl,hr,hi,hf⟩:=fin w hw c hR hok hcb;rw [hobj] at hi hf;subst hw';exact⟨_,h',he,hr,hi,hf⟩
 ·rcases hc.bytes with⟨h0,_⟩|⟨b,off,cur,e,fz,rfl,_⟩
  ·omega
  ·obtain⟨c,hR,hok,hcb,hobj⟩:=key w hw 2000 (Nat.le_refl _) (by omega);refine(Eld.open_long b off len cap w (by omega) hc.room hc.max).mono fun e w' ⟨he,hw'⟩=>?_
   obtain⟨v,h',rfl,hr,hi,hf⟩:=fin w hw c hR hok hcb;rw [hobj] at hi hf;subst hw';exact⟨_,h',he,hr,hi,hf⟩
def RunD.toE (d:RunD):Eld.RunD:=⟨d.id,d.pl,d.slots,d.full,d.mail,d.st,d.due,d.links,d.wat,d.trap,d.wk,d.wn,d.tu⟩
def RunP.toE (p:RunP):Eld.RunP:=⟨p.a0,p.k0,p.a1,p.k1,p.a2,p.k2,p.a3,p.k3⟩
theorem row_cell {h:Hp} {e:TypeId} {sz n k g:Nat} {xs:List Value} (o:RowOk h ⟨e,sz,.slice (some ⟨g,0,none⟩) n k,n,xs⟩) {w:World} (hw:InH h w) {j:Nat} {v:Value} (hj:xs[j]?=some v) (hn:0<n):w.cell? ⟨g,j,none⟩=some v∧g<w.heap.size:=by
 obtain⟨g',cap,cur,e1,hg,hnc,hcm,hcs,htk⟩:=RowOk.form o hn
 cases e1
 have hg':=hw g _ hg;refine⟨?_,hw.lt hg⟩;rw [cell_of_row w g j cur _ _ hg'];dsimp only at htk;rw [←htk,List.getElem?_take] at hj
 split at hj
 ·simpa using hj
 ·cases hj
theorem vals_at {h:Hp} {a:Option Addr} {k:Nat} {L:List (Int×Int)} (o:RowOk h (rowV (.slice a L.length k) L)) {w:World} (hw:InH h w):Eld.Vals w.heap.size w (.slice a L.length k) L:=by
 by_cases h0:L.length=0
 ·exact⟨a,k,rfl,.inl (List.eq_nil_of_length_eq_zero h0)⟩
 ·obtain⟨g,ha⟩:=row_some o (by omega);subst ha;refine⟨_,k,rfl,.inr ⟨g,0,rfl,?_,fun i hi=>?_⟩⟩
  ·exact(row_cell o hw (j:=0) (v:=.int .i64 L[0].1) (flat_get encV 2 encV_len L 0 (by omega) 0 (by decide)) (by omega)).2
  ·rw [Nat.zero_add];exact⟨(row_cell o hw (flat_get encV 2 encV_len L i hi 0 (by decide)) (by omega)).1,(row_cell o hw (flat_get encV 2 encV_len L i hi 1 (by decide)) (by omega)).1⟩
theorem ints_at {h:Hp} {a:Option Addr} {k:Nat} {L:List Int} (o:RowOk h (rowI (.slice a L.length k) L)) {w:World} (hw:InH h w):Eld.Ints w.heap.size w (.slice a L.length k) L:=by
 by_cases h0:L.length=0
 ·exact⟨a,k,rfl,.inl (List.eq_nil_of_length_eq_zero h0)⟩
 ·obtain⟨g,ha⟩:=row_some o (by omega);subst ha;have key:∀i (hi:i<L.length),(L.flatMap encI)[i]?=some (.int .i64 L[i]):=fun i hi=>by
   have:=flat_get encI 1 encI_len L i hi 0 (by decide);rw [Nat.mul_one,Nat.add_zero] at this;exact this
  refine⟨_,k,rfl,.inr ⟨g,0,rfl,?_,fun i hi=>?_⟩⟩
  ·exact(row_cell o hw (key 0 (by omega)) (by omega)).2
  ·rw [Nat.zero_add];exact(row_cell o hw (key i hi) (by omega)).1
theorem row_cap {h:Hp} {e:TypeId} {sz n k:Nat} {a:Option Addr} {xs:List Value} (o:RowOk h ⟨e,sz,.slice a n k,n,xs⟩):n≤k:=by
 rcases o.2 with⟨e,h0⟩|⟨g,cap,cur,e,_,h1,_⟩
 ·dsimp only at h0;omega
 ·cases e;exact h1
structure RunIn (h:Hp) (d:RunD) (p:RunP):Prop where
 r0:RowOk h (rowV (.slice p.a0 d.slots.length p.k0) d.slots)
 r1:RowOk h (rowV (.slice p.a1 d.mail.length p.k1) d.mail)
 r2:RowOk h (rowI (.slice p.a2 d.links.length p.k2) d.links)
 r3:RowOk h (rowI (.slice p.a3 d.wat.length p.k3) d.wat)
theorem Own.run {h:Hp} {L:List Atom} (o:Own h L) {d:RunD} {p:RunP} (hm:∀x∈runRows (d,p),x∈L):RunIn h d p :=
 ⟨o.rowOk (hm _ (by simp [runRows])),o.rowOk (hm _ (by simp [runRows])),o.rowOk (hm _ (by simp [runRows])),o.rowOk (hm _ (by simp [runRows]))⟩
theorem RunIn.mem {h:Hp} {d:RunD} {p:RunP} (o:RunIn h d p) {w:World} (hw:InH h w):Eld.RunMem w.heap.size w d.toE p.toE:=⟨vals_at o.r0 hw,vals_at o.r1 hw,ints_at o.r2 hw,ints_at o.r3 hw⟩
structure RunD.Sh (d:RunD):Prop where
 s0:d.slots.length≤1000000
 s1:d.mail.length≤1000000
 s2:d.links.length≤1000000
 s3:d.wat.length≤1000000
theorem RunD.Sh.toE {d:RunD} (h:d.Sh):d.toE.Short:=⟨by have:=h.s0;show d.slots.length≤_;omega,by have:=h.s1;show d.mail.length≤_;omega,by have:=h.s2;show d.links.length≤_;omega,by have:=h.s3;show d.wat.length≤_;omega⟩
theorem sRunOk_con (d:RunD) (p:RunP) (hs:d.Sh) (h:Hp) (o:RunIn h d p):Con Tryz.prog 75 #[d.val p] h fun r h'=>r=.bool (Eld.specRB d.toE)∧h'=h:=by
 refine Con.of_below (Tryz.call75 _) fun w hw=>?_
 exact(Eld.specRunOk_any w.heap.size d.toE p.toE w (Nat.le_refl _) hs.toE (row_cap o.r2) (row_cap o.r3) (o.mem hw)).mono fun e w' ⟨he,hb⟩=>⟨⟨_,he,rfl⟩,hb⟩
theorem iRunOk_con (d:RunD) (p:RunP) (hs:d.Sh) (h:Hp) (o:RunIn h d p):Con Tryz.prog 92 #[d.val p] h fun r h'=>r=.bool (Eld.runB d.toE)∧h'=h:=by
 refine Con.of_below (Tryz.call92 _) fun w hw=>?_
 exact(Eld.implRunOk_any w.heap.size d.toE p.toE w (Nat.le_refl _) hs.toE (row_cap o.r2) (row_cap o.r3) (o.mem hw)).mono fun e w' ⟨he,hb⟩=>⟨⟨_,he,rfl⟩,hb⟩
theorem iRunFirst_con (d:RunD) (p:RunP) (k:Int) (hs:d.Sh) (h:Hp) (o:RunIn h d p):Con Tryz.prog 141 #[d.val p,.int .i64 k] h fun r h'=>r=.tuple #[.int .i64 (Eld.sFirst d.toE k).1,.bool (Eld.sFirst d.toE k).2]∧h'=h:=by
 refine Con.of_below (Tryz.call141 _) fun w hw=>?_
 exact(Eld.implRunFirst_any w.heap.size d.toE p.toE k w (Nat.le_refl _) hs.toE (row_cap o.r2) (row_cap o.r3) (o.mem hw)).mono fun e w' ⟨he,hb⟩=>⟨⟨_,he,rfl⟩,hb⟩
theorem iFits_con (v:Int×Int) (k:Int) (h:Hp):Con Tryz.prog 183 #[.agg #[.int .i64 v.1,.int .i64 v.2],.int .i64 k] h fun r h'=>r=.bool (Eld.AH.fitsB v.1 v.2 k)∧h'=h:=by
 refine Con.of_below (Tryz.call183 _) fun w _=>?_
 exact(Eld.AH.implFits_any v.1 v.2 k w).mono fun e w' ⟨he,hb⟩=>⟨⟨_,he,rfl⟩,hb⟩
theorem own:ownKnob Tryz.prog.godebug=none:=by kernel_rfl
theorem laidOut:laidOutB Tryz.prog=true:=by kernel_rfl
theorem neqB_run (a b:Bool) (x y:Operand) (w:World):(do eqGuard .neq 4 x y (.bool a) (.bool b);binOp .neq 4 (.bool a) (.bool b):Sem Value).run Tryz.prog w=.ok (.bool (a != b)) w:=by
 cases a<;>cases b<;>kernel_rfl
theorem eqlB_run (a b:Bool) (x y:Operand) (w:World):(do eqGuard .eql 4 x y (.bool a) (.bool b);binOp .eql 4 (.bool a) (.bool b):Sem Value).run Tryz.prog w=.ok (.bool (a==b)) w:=by
 cases a<;>cases b<;>kernel_rfl
theorem Ext.neqB {o:Oper} {x y:Operand} {t2:TypeId} (ho:o.op=.binOp .neq 4 x y t2) {ev:Operand→Value} {h:Hp} {K:Option Value→Hp→Prop} {a b:Bool} (hx:ev x=.bool a) (hy:ev y=.bool b) (k:K (some (.bool (a != b))) h):Ext Tryz.prog (execOp ev o) h K:=by
 refine Ext.val (.bool (a != b)) (fun w=>?_) k;have:=neqB_run a b x y w;simp only [execOp,ho,hx,hy];exact run_value _ w _ w this
def Yes (cb:Option (Nat×Obj)) (v:Value) (h':Hp):Prop:=v=.bool true∧(cbHp cb).le h'
theorem cb_le {cb:Option (Nat×Obj)} {h:Hp} {l:List Atom} (o:Own h (cbAtoms cb++l)):(cbHp cb).le h:=by
 cases cb with
 |none=>intro b o e;cases e
 |some x=>exact oneB_le (o.ok (.blk x.1 x.2) (by simp [cbAtoms]))
theorem yes_below {cb:Option (Nat×Obj)} {w w':World} {h':Hp} {e:Ending} {v:Value} (hi:InH (cbHp cb) w) (hi':InH h' w') (hf:Fr (cbHp cb) w h' w') (he:e=.returned v) (hy:Yes cb v h'):e=.returned (.bool true)∧Below w.heap.size w w':=by
 refine⟨by rw [he,hy.1],hf.os,hf.tape,hf.output,hf.size,fun b hb=>?_⟩
 cases ec:cbHp cb b with
 |none=>exact(hf.priv b hb ec).1
 |some o=>rw [hi' b o (hy.2 b o ec),hi b o ec]
theorem DrawnW.why {d:PW} (h:DrawnW d):∀x∈d.runs,okV (x.wk,x.wn)=true:=by
 obtain⟨C,es,w,hsafe,hP,hes,hs⟩:=h;obtain⟨V,hV,hcr,hc0⟩:=safe_code hsafe;have hlen:=safe_len hsafe;obtain⟨hinv,_,_⟩:=hP.inv hcr hc0 (by omega);have key:∀x∈w.runs,okV (x.wk,x.wn)=true:=fun x hx=>(hinv.runs x hx).why
 rcases hs with rfl|rfl|rfl|⟨x,k,hx,_,_,rfl⟩|⟨x,hx,rfl⟩|⟨C',h1,h2,rfl⟩
 ·exact key
 ·exact key
 ·exact key
 ·intro y hy;rcases mem_set' hy with rfl|hy
  ·exact key x (List.mem_of_getElem? hx)
  ·exact key y hy
 ·intro y hy;rcases mem_set' hy with rfl|hy
  ·exact key x (List.mem_of_getElem? hx)
  ·exact key y hy
 ·exact key
end Go.Proofs.YtgmkmeodimmdoaaGreatDoor
