import Derived.Test.YtgmkmeodimmdoaaGreatDoorBSg
import Derived.Test.YtgmkmeodimmdoaaGreatDoorBQc
import Derived.Test.YtgmkmeodimmdoaaGreatDoorBQg
namespace Go.Proofs.YtgmkmeodimmdoaaGreatDoor
open Go.RowKit
set_option maxRecDepth 100000
theorem pick_key (R:Nat) (p n:Int) (w:World) (h:Eld.Rd R p w) (hp1:p≤1000000) (hn1:1≤n) (hn2:n≤1000) :
  Calls Tryz.prog 37 #[.pointer (some ⟨R,0,none⟩),.int .i64 n] w fun e w'=>∃r q,e=.returned (.int .i64 r)∧0≤r∧r<n∧w'=(w.setCell ⟨R,1,none⟩ (.int .i64 (p+1))).drewN q:=by
 obtain⟨a,len,cap,h0,h1,h2⟩:=h.row;rcases h2 with rfl|⟨b,off,rfl,hlt,z,hz,hc⟩
 ·exact(Eld.pick_none R cap a p n w h0 h.place h.free h.p0 hp1 hn1 hn2).mono fun e w' ⟨r,he,h1,h2,hw⟩=>⟨r,0,he,h1,h2,hw⟩
 ·by_cases hl:len=0
  ·subst hl;exact(Eld.pick_none R cap _ p n w h0 h.place h.free h.p0 hp1 hn1 hn2).mono fun e w' ⟨r,he,h1,h2,hw⟩=>⟨r,0,he,h1,h2,hw⟩
  ·by_cases hge:(len:Int)≤p
   ·exact Eld.pick_far R b off len cap p n z w h0 h.place h.free (by omega) h.p0 hp1 (by omega) h1 hc (fun i=>(hz i).1) (fun i=>(hz i).2) hn1 hn2 hge
   ·exact(Eld.pick_near R b off len cap p n z w h0 h.place h.free (by omega) h.p0 hp1 (by omega) h1 hc (fun i=>(hz i).1) (fun i=>(hz i).2) hn1 hn2 (by omega)).mono fun e w' ⟨r,he,h1,h2,hw⟩=>⟨r,0,he,h1,h2,hw⟩
structure RdC where
 R:Nat
 a:Option Addr
 len:Nat
 cap:Nat
 ty:TypeId
 cb:Option (Nat×Obj)
def RdC.obj (c:RdC) (p:Int):Obj:=.cells #[.slice c.a c.len c.cap,.int .i64 p] c.ty (0,0)
def RdC.codeAt (c:RdC):List Atom:=match c.cb with
 |none=>[]
 |some (b,o)=>[.blk b o]
def RdC.atoms (c:RdC) (p:Int):List Atom:=.blk c.R (c.obj p)::c.codeAt
structure RdC.Ok (c:RdC):Prop where
 len:c.len≤2000
 code:c.len=0∨∃b off cur e fz,c.a=some ⟨b,off,none⟩∧b<c.R∧c.cb=some (b,.cells cur e fz)∧∃z:Nat→Int,(∀i,0≤z i∧z i≤255)∧∀i,i<c.len→cur[off+i]?=some (.int .u8 (z i))
theorem setCell_one (w:World) (R:Nat) (x y u:Value) (ty:TypeId) (fz:Nat×Nat) (h:w.heap[R]?=some (.cells #[x,y] ty fz)):(w.setCell ⟨R,1,none⟩ u).heap[R]?=some (.cells #[x,u] ty fz):=by
 simp [World.setCell,Array.getElem?_modify,h]
theorem pick_con (c:RdC) (hc:c.Ok) (p n:Int) (hp0:0≤p) (hp1:p≤1000000) (hn1:1≤n) (hn2:n≤1000) (h:Hp) (l:List Atom) (ho:Own h (c.atoms p++l)) :
  Con Tryz.prog 37 #[.pointer (some ⟨c.R,0,none⟩),.int .i64 n] h fun r h'=>∃k,r=.int .i64 k∧0≤k∧k<n∧Own h' (c.atoms (p+1)++l):=by
 have hR:h c.R=some (c.obj p):=ho.ok (.blk c.R (c.obj p)) (by simp [RdC.atoms]);refine⟨Tryz.call37 _,fun w hw=>?_⟩;have hwR:w.heap[c.R]?=some (c.obj p):=hw _ _ hR;have hlt:c.R<w.heap.size:=hw.lt hR;have hrd:Eld.Rd c.R p w:=by
  refine⟨hlt,hp0,⟨c.a,c.len,c.cap,?_,hc.len,?_⟩,?_,?_⟩
  ·rw [cell_of_row w c.R 0 _ _ _ hwR];rfl
  ·rcases hc.code with h0|⟨b,off,cur,e,fz,ha,hb,hcb,z,hz,hcell⟩
   ·exact .inl h0
   ·refine .inr ⟨b,off,ha,hb,z,hz,fun i hi=>?_⟩;have hB:h b=some (.cells cur e fz):=ho.ok (.blk b (.cells cur e fz)) (by simp [RdC.atoms,RdC.codeAt,hcb]);rw [cell_of_row w b (off+i) cur e fz (hw _ _ hB)];exact hcell i hi
  ·rw [cell_of_row w c.R 1 _ _ _ hwR];rfl
  ·exact frozen_of_row w c.R 1 _ _ hwR
 refine(pick_key c.R p n w hrd hp1 hn1 hn2).mono fun e w' ⟨r,q,he,h0,h1,hw'⟩=>⟨.int .i64 r,h.put c.R (c.obj (p+1)),he,⟨r,rfl,h0,h1,?_⟩,?_,?_⟩
 ·exact Own.turn (x:=.blk c.R (c.obj p)) ho (y:=.blk c.R (c.obj (p+1))) (Hp.put_same _ _ _) (fun g e=>.inl e) (fun k e1 _=>Hp.put_ne _ _ (fun e=>e1 (by rw [e];rfl)))
 ·intro b o hb;subst hw';show (w.setCell ⟨c.R,1,none⟩ (.int .i64 (p+1))).heap[b]?=some o;by_cases e:b=c.R
  ·subst e;rw [Hp.put_same] at hb
   cases hb
   exact setCell_one w c.R _ _ _ _ _ hwR
  ·rw [Hp.put_ne _ _ e] at hb;rw [Below.heap_setCell _ _ _ _ e];exact hw _ _ hb
 ·subst hw';refine⟨rfl,rfl,rfl,by simp [World.setCell,World.drewN],fun b hb e=>?_⟩;have hne:b≠c.R:=fun e2=>by rw [e2,hR] at e;cases e
  exact⟨Below.heap_setCell _ _ _ _ hne,by rw [Hp.put_ne _ _ hne];exact e⟩
theorem l71Val_con (c:RdC) (hc:c.Ok) (p:Int) (hp0:0≤p) (hp1:p≤900000) (h:Hp) (l:List Atom) (ho:Own h (c.atoms p++l)) :
  Con Tryz.prog 175 #[.pointer (some ⟨c.R,0,none⟩)] h fun r h'=>∃(v:Int×Int) (p':Int),r=.agg #[.int .i64 v.1,.int .i64 v.2]∧p≤p'∧p'≤p+4∧Own h' (c.atoms p'++l):=by
 refine Con.of_W (tb:=tbE) (args:=[.pointer (some ⟨c.R,0,none⟩)]) Tryz.func175 rfl Tryz.results175 Tryz.ntmps175 (by simp) (Tryz.call175 _) (tm:=[(0,.v (.pointer (some ⟨c.R,0,none⟩)))]) rfl ?_;refine vc_ok ⟨tbE_ok,_,Tryz.func175,Tryz.results175,Tryz.ntmps175⟩ 400 _ _ _ _ ?_;conv=>whnf
 refine(pick_con c hc p 4 hp0 (by omega) (by omega) (by omega) h l ho).mono ?_;rintro r h1 ⟨k,rfl,hk0,hk1,ho1⟩;conv=>whnf
 refine⟨fun _=>?_,fun _=>?_⟩<;>conv=>whnf
 ·refine Ext.buildSlice slInt rfl ho1 [.int .i64 0,.int .i64 0,.int .i64 0,.int .i64 0,.int .i64 0,.int .i64 0,.int .i64 0,.int .i64 0,.int .i64 0] (fun w=>⟨_,Tryz.zeroValue3 w,by kernel_rfl⟩) [.int .i64 (0),.int .i64 (1),.int .i64 (2),.int .i64 (3),.int .i64 (-1),.int .i64 (7),.int .i64 (50),.int .i64 (99),.int .i64 (-99)] rfl rfl (by decide) fun gn hbn _ obn=>?_
  conv=>whnf
  have oon:Own hbn (c.atoms (p+1)++.row (rowI (.slice (some ⟨gn,0,none⟩) [0,1,2,3,-1,7,50,99,-99].length 9) [0,1,2,3,-1,7,50,99,-99])::l):=w_lists obn;refine(pick_con c hc (p+1) 9 (by omega) (by omega) (by omega) (by omega) hbn _ oon).mono ?_;rintro r hcn ⟨ixn,rfl,hin,hjn,ocn⟩;conv=>whnf
  obtain⟨txn,rfl⟩:∃t:Nat,ixn=(t:Int):=⟨ixn.toNat,by omega⟩;refine Ext.index slInt.u slInt.size rfl rfl rfl txn rfl (by omega) ?_;conv=>whnf
  refine Ext.loadInt (L:=[0,1,2,3,-1,7,50,99,-99]) rfl (ocn.rowOk (r:=rowI (.slice (some ⟨gn,0,none⟩) [0,1,2,3,-1,7,50,99,-99].length 9) [0,1,2,3,-1,7,50,99,-99]) (by simp)) rfl (by show txn<9;omega) rfl ?_;conv=>whnf
  have odn:Own hcn (c.atoms (p+1+1)++l):=(w_row ocn).tail;refine(pick_con c hc (p+1+1) 30 (by omega) (by omega) (by omega) (by omega) hcn l odn).mono ?_;rintro r hx ⟨sx,rfl,_,_,ox⟩;conv=>whnf
  refine⟨fun _=>?_,fun _=>?_⟩<;>conv=>whnf
  ·refine Ext.buildSlice slInt rfl ox [.int .i64 0,.int .i64 0,.int .i64 0] (fun w=>⟨_,Tryz.zeroValue3 w,by kernel_rfl⟩) [.int .i64 (-100),.int .i64 (100),.int .i64 (10)] rfl rfl (by decide) fun gxa hbxa _ obxa=>?_
   conv=>whnf
   have ooxa:Own hbxa (c.atoms (p+1+1+1)++.row (rowI (.slice (some ⟨gxa,0,none⟩) [-100,100,10].length 3) [-100,100,10])::l):=w_lists obxa;refine(pick_con c hc (p+1+1+1) 3 (by omega) (by omega) (by omega) (by omega) hbxa _ ooxa).mono ?_;rintro r hcxa ⟨ixxa,rfl,hixa,hjxa,ocxa⟩;conv=>whnf
   obtain⟨txxa,rfl⟩:∃t:Nat,ixxa=(t:Int):=⟨ixxa.toNat,by omega⟩;refine Ext.index slInt.u slInt.size rfl rfl rfl txxa rfl (by omega) ?_;conv=>whnf
   refine Ext.loadInt (L:=[-100,100,10]) rfl (ocxa.rowOk (r:=rowI (.slice (some ⟨gxa,0,none⟩) [-100,100,10].length 3) [-100,100,10]) (by simp)) rfl (by show txxa<3;omega) rfl ?_;conv=>whnf
   have odxa:Own hcxa (c.atoms (p+1+1+1+1)++l):=(w_row ocxa).tail;exact⟨(k,_),p+1+1+1+1,rfl,by omega,by omega,odxa⟩
  ·refine⟨fun _=>?_,fun _=>?_⟩<;>conv=>whnf
   ·refine(pick_con c hc (p+1+1+1) 6 (by omega) (by omega) (by omega) (by omega) hx l ox).mono ?_;rintro r hxb ⟨sxb,rfl,_,_,oxb⟩;conv=>whnf
    exact⟨(sxb,_),p+1+1+1+1,rfl,by omega,by omega,oxb⟩
   ·exact⟨(k,_),p+1+1+1,rfl,by omega,by omega,ox⟩
 ·refine⟨fun _=>?_,fun _=>?_⟩<;>conv=>whnf
  ·refine(pick_con c hc (p+1) 5 (by omega) (by omega) (by omega) (by omega) h1 l ho1).mono ?_;rintro r h2 ⟨k2,rfl,_,_,ho2⟩;conv=>whnf
   refine(pick_con c hc (p+1+1) 30 (by omega) (by omega) (by omega) (by omega) h2 l ho2).mono ?_;rintro r hy ⟨sy,rfl,_,_,oy⟩;conv=>whnf
   refine⟨fun _=>?_,fun _=>?_⟩<;>conv=>whnf
   ·refine Ext.buildSlice slInt rfl oy [.int .i64 0,.int .i64 0,.int .i64 0] (fun w=>⟨_,Tryz.zeroValue3 w,by kernel_rfl⟩) [.int .i64 (-100),.int .i64 (100),.int .i64 (10)] rfl rfl (by decide) fun gya hbya _ obya=>?_
    conv=>whnf
    have ooya:Own hbya (c.atoms (p+1+1+1)++.row (rowI (.slice (some ⟨gya,0,none⟩) [-100,100,10].length 3) [-100,100,10])::l):=w_lists obya;refine(pick_con c hc (p+1+1+1) 3 (by omega) (by omega) (by omega) (by omega) hbya _ ooya).mono ?_;rintro r hcya ⟨ixya,rfl,hiya,hjya,ocya⟩;conv=>whnf
    obtain⟨txya,rfl⟩:∃t:Nat,ixya=(t:Int):=⟨ixya.toNat,by omega⟩;refine Ext.index slInt.u slInt.size rfl rfl rfl txya rfl (by omega) ?_;conv=>whnf
    refine Ext.loadInt (L:=[-100,100,10]) rfl (ocya.rowOk (r:=rowI (.slice (some ⟨gya,0,none⟩) [-100,100,10].length 3) [-100,100,10]) (by simp)) rfl (by show txya<3;omega) rfl ?_;conv=>whnf
    have odya:Own hcya (c.atoms (p+1+1+1+1)++l):=(w_row ocya).tail;exact⟨(k,_),p+1+1+1+1,rfl,by omega,by omega,odya⟩
   ·refine⟨fun _=>?_,fun _=>?_⟩<;>conv=>whnf
    ·refine(pick_con c hc (p+1+1+1) 6 (by omega) (by omega) (by omega) (by omega) hy l oy).mono ?_;rintro r hyb ⟨syb,rfl,_,_,oyb⟩;conv=>whnf
     exact⟨(syb,k2),p+1+1+1+1,rfl,by omega,by omega,oyb⟩
    ·exact⟨(k,k2),p+1+1+1,rfl,by omega,by omega,oy⟩
  ·refine⟨fun _=>?_,fun _=>?_⟩<;>conv=>whnf
   ·refine(pick_con c hc (p+1) 4 (by omega) (by omega) (by omega) (by omega) h1 l ho1).mono ?_;rintro r h2 ⟨k2,rfl,_,_,ho2⟩;conv=>whnf
    refine(pick_con c hc (p+1+1) 30 (by omega) (by omega) (by omega) (by omega) h2 l ho2).mono ?_;rintro r hz ⟨sz,rfl,_,_,oz⟩;conv=>whnf
    refine⟨fun _=>?_,fun _=>?_⟩<;>conv=>whnf
    ·refine Ext.buildSlice slInt rfl oz [.int .i64 0,.int .i64 0,.int .i64 0] (fun w=>⟨_,Tryz.zeroValue3 w,by kernel_rfl⟩) [.int .i64 (-100),.int .i64 (100),.int .i64 (10)] rfl rfl (by decide) fun gza hbza _ obza=>?_
     conv=>whnf
     have ooza:Own hbza (c.atoms (p+1+1+1)++.row (rowI (.slice (some ⟨gza,0,none⟩) [-100,100,10].length 3) [-100,100,10])::l):=w_lists obza;refine(pick_con c hc (p+1+1+1) 3 (by omega) (by omega) (by omega) (by omega) hbza _ ooza).mono ?_;rintro r hcza ⟨ixza,rfl,hiza,hjza,ocza⟩;conv=>whnf
     obtain⟨txza,rfl⟩:∃t:Nat,ixza=(t:Int):=⟨ixza.toNat,by omega⟩;refine Ext.index slInt.u slInt.size rfl rfl rfl txza rfl (by omega) ?_;conv=>whnf
     refine Ext.loadInt (L:=[-100,100,10]) rfl (ocza.rowOk (r:=rowI (.slice (some ⟨gza,0,none⟩) [-100,100,10].length 3) [-100,100,10]) (by simp)) rfl (by show txza<3;omega) rfl ?_;conv=>whnf
     have odza:Own hcza (c.atoms (p+1+1+1+1)++l):=(w_row ocza).tail;exact⟨(k,_),p+1+1+1+1,rfl,by omega,by omega,odza⟩
    ·refine⟨fun _=>?_,fun _=>?_⟩<;>conv=>whnf
     ·refine(pick_con c hc (p+1+1+1) 6 (by omega) (by omega) (by omega) (by omega) hz l oz).mono ?_;rintro r hzb ⟨szb,rfl,_,_,ozb⟩;conv=>whnf
      exact⟨(szb,_),p+1+1+1+1,rfl,by omega,by omega,ozb⟩
     ·exact⟨(k,_),p+1+1+1,rfl,by omega,by omega,oz⟩
   ·refine(pick_con c hc (p+1) 30 (by omega) (by omega) (by omega) (by omega) h1 l ho1).mono ?_;rintro r hu ⟨su,rfl,_,_,ou⟩;conv=>whnf
    refine⟨fun _=>?_,fun _=>?_⟩<;>conv=>whnf
    ·refine Ext.buildSlice slInt rfl ou [.int .i64 0,.int .i64 0,.int .i64 0] (fun w=>⟨_,Tryz.zeroValue3 w,by kernel_rfl⟩) [.int .i64 (-100),.int .i64 (100),.int .i64 (10)] rfl rfl (by decide) fun gua hbua _ obua=>?_
     conv=>whnf
     have ooua:Own hbua (c.atoms (p+1+1)++.row (rowI (.slice (some ⟨gua,0,none⟩) [-100,100,10].length 3) [-100,100,10])::l):=w_lists obua;refine(pick_con c hc (p+1+1) 3 (by omega) (by omega) (by omega) (by omega) hbua _ ooua).mono ?_;rintro r hcua ⟨ixua,rfl,hiua,hjua,ocua⟩;conv=>whnf
     obtain⟨txua,rfl⟩:∃t:Nat,ixua=(t:Int):=⟨ixua.toNat,by omega⟩;refine Ext.index slInt.u slInt.size rfl rfl rfl txua rfl (by omega) ?_;conv=>whnf
     refine Ext.loadInt (L:=[-100,100,10]) rfl (ocua.rowOk (r:=rowI (.slice (some ⟨gua,0,none⟩) [-100,100,10].length 3) [-100,100,10]) (by simp)) rfl (by show txua<3;omega) rfl ?_;conv=>whnf
     have odua:Own hcua (c.atoms (p+1+1+1)++l):=(w_row ocua).tail;exact⟨(k,_),p+1+1+1,rfl,by omega,by omega,odua⟩
    ·refine⟨fun _=>?_,fun _=>?_⟩<;>conv=>whnf
     ·refine(pick_con c hc (p+1+1) 6 (by omega) (by omega) (by omega) (by omega) hu l ou).mono ?_;rintro r hub ⟨sub,rfl,_,_,oub⟩;conv=>whnf
      exact⟨(sub,0),p+1+1+1,rfl,by omega,by omega,oub⟩
     ·exact⟨(k,0),p+1+1,rfl,by omega,by omega,ou⟩
theorem l71Good_con (c:RdC) (hc:c.Ok) (p:Int) (hp0:0≤p) (hp1:p≤900000) (h:Hp) (l:List Atom) (ho:Own h (c.atoms p++l)) :
  Con Tryz.prog 146 #[.pointer (some ⟨c.R,0,none⟩)] h fun r h'=>∃(v:Int×Int) (p':Int),r=.agg #[.int .i64 v.1,.int .i64 v.2]∧okV v=true∧p≤p'∧p'≤p+4∧Own h' (c.atoms p'++l):=by
 refine Con.of_W (tb:=tbE) (args:=[.pointer (some ⟨c.R,0,none⟩)]) Tryz.func146 rfl Tryz.results146 Tryz.ntmps146 (by simp) (Tryz.call146 _) (tm:=[(0,.v (.pointer (some ⟨c.R,0,none⟩)))]) rfl ?_;refine vc_ok ⟨tbE_ok,_,Tryz.func146,Tryz.results146,Tryz.ntmps146⟩ 400 _ _ _ _ ?_;conv=>whnf
 refine(l71Val_con c hc p hp0 hp1 h l ho).mono ?_;rintro r h1 ⟨v,p',rfl,hp,hp',ho1⟩;conv=>whnf
 refine(valOk_con v h1).mono ?_;rintro r h2 ⟨rfl,rfl⟩;conv=>whnf
 refine⟨fun h3=>?_,fun h3=>?_⟩<;>conv=>whnf
 ·exact⟨(1,1),p',rfl,by decide,hp,hp',ho1⟩
 ·exact⟨v,p',rfl,by simpa using h3,hp,hp',ho1⟩
theorem slBool:SlTy Tryz.prog 157 4 1 1:=⟨Tryz.underlying157,⟨_,_,Tryz.type4,rfl,rfl,rfl,rfl⟩,by decide⟩
abbrev formRow (g:Nat) (b0 b1 b2 b3:Bool):Row:=⟨4,1,.slice (some ⟨g,0,none⟩) 4 4,4,[.bool b0,.bool b1,.bool b2,.bool b3]⟩
theorem l2Form_con (k:Int) (h1:1≤k) (h2:k≤14) (h:Hp) (l:List Atom) (ho:Own h l) :
  Con Tryz.prog 148 #[.int .i64 k] h fun r h'=>∃g b0 b1 b2 b3,r=.slice (some ⟨g,0,none⟩) 4 4∧Own h' (.row (formRow g b0 b1 b2 b3)::l):=by
 rcases (by omega:k=1∨k=2∨k=3∨k=4∨k=5∨k=6∨k=7∨k=8∨k=9∨k=10∨k=11∨k=12∨k=13∨k=14) with rfl|rfl|rfl|rfl|rfl|rfl|rfl|rfl|rfl|rfl|rfl|rfl|rfl|rfl
 all_goals
  refine Con.of_W (tb:=tbE) (args:=[.int .i64 _]) Tryz.func148 rfl Tryz.results148 Tryz.ntmps148 (by simp) (Tryz.call148 _) (tm:=[(0,.v (.int .i64 _))]) rfl ?_;refine vc_ok ⟨tbE_ok,_,Tryz.func148,Tryz.results148,Tryz.ntmps148⟩ 400 _ _ _ _ ?_;conv=>whnf
  repeat (first
   |(refine⟨fun e=>absurd e (by decide),fun _=>?_⟩;conv=>whnf)
   |(refine⟨fun _=>?_,fun e=>absurd e (by decide)⟩;conv=>whnf))
  refine Ext.buildSlice slBool rfl ho [.bool false,.bool false,.bool false,.bool false] (fun w=>⟨_,Tryz.zeroValue4 w,by kernel_rfl⟩) _ rfl rfl (by decide) fun g h' _ o=>?_
  conv=>whnf
  exact⟨g,_,_,_,_,rfl,o⟩
theorem form_at {c:RdC} {p:Int} {h:Hp} {l:List Atom} {g:Nat} {b0 b1 b2 b3:Bool} (o:Own h (c.atoms p++.row (formRow g b0 b1 b2 b3)::l)):RowOk h (formRow g b0 b1 b2 b3):=o.rowOk (by simp)
theorem l71Op_con (c:RdC) (hc:c.Ok) (p:Int) (hp0:0≤p) (hp1:p≤800000) (n:Int) (hn1:1≤n) (hn2:n≤100) (h:Hp) (l:List Atom) (ho:Own h (c.atoms p++l)) :
  Con Tryz.prog 99 #[.pointer (some ⟨c.R,0,none⟩),.int .i64 n] h fun r h'=>∃(o:OpD) (p':Int),r=.agg o.cells.toArray∧p≤p'∧p'≤p+14∧Own h' (c.atoms p'++l):=by
 refine Con.of_W (tb:=tbE) (args:=[.pointer (some ⟨c.R,0,none⟩),.int .i64 n]) Tryz.func99 rfl Tryz.results99 Tryz.ntmps99 (by simp) (Tryz.call99 _) (tm:=[(0,.v (.pointer (some ⟨c.R,0,none⟩))),(1,.v (.int .i64 n))]) rfl ?_;refine vc_ok ⟨tbE_ok,_,Tryz.func99,Tryz.results99,Tryz.ntmps99⟩ 400 _ _ _ _ ?_;conv=>whnf
 refine(pick_con c hc p 14 hp0 (by omega) (by omega) (by omega) h l ho).mono ?_;rintro r h1 ⟨k,rfl,hk0,hk1,ho1⟩;clear ho;have hk:IntKind.i64.wrap (1+k)=1+k:=wrapN _ (by omega) (by omega);conv=>whnf
 rw [hk];refine(l2Form_con (1+k) (by omega) (by omega) h1 _ ho1).mono ?_;rintro r h2 ⟨g,b0,b1,b2,b3,rfl,ho2'⟩;have ho2:Own h2 (c.atoms (p+1)++.row (formRow g b0 b1 b2 b3)::l):=w_lists ho2';clear ho1 ho2' hk;conv=>whnf
 refine Ext.index slBool.u slBool.size rfl rfl rfl 0 rfl (by decide) ?_;conv=>whnf
 refine Ext.load tbE_ok rfl rfl (form_at ho2) rfl rfl (by show 0+0*1+1≤4*1;decide) (.bool b0) (.inr ⟨rfl,rfl,rfl⟩) ?_;conv=>whnf
 refine⟨fun _=>?_,fun _=>?_⟩<;>conv=>whnf
 ·refine(pick_con c hc _ 4 (by omega) (by omega) (by omega) (by omega) _ _ ho2).mono ?_;rintro r h3 ⟨x3,rfl,_,_,ho3⟩;conv=>whnf
  have q3:p≤p+1+1∧p+1+1≤p+2:=by omega
  generalize p+1+1=p3 at ho3 q3;clear ho2;refine Ext.index slBool.u slBool.size rfl rfl rfl 1 rfl (by decide) ?_;conv=>whnf
  refine Ext.load tbE_ok rfl rfl (form_at ho3) rfl rfl (by show 0+1*1+1≤4*1;decide) (.bool b1) (.inr ⟨rfl,rfl,rfl⟩) ?_;conv=>whnf
  refine⟨fun _=>?_,fun _=>?_⟩<;>conv=>whnf
  ·refine(pick_con c hc _ 4 (by omega) (by omega) (by omega) (by omega) _ _ ho3).mono ?_;rintro r _ ⟨_,rfl,_,_,ho4⟩;conv=>whnf
   have q4:p≤p3+1∧p3+1≤p+3:=by omega
   generalize p3+1=p4 at ho4 q4;clear ho3;refine Ext.index slBool.u slBool.size rfl rfl rfl 2 rfl (by decide) ?_;conv=>whnf
   refine Ext.load tbE_ok rfl rfl (form_at ho4) rfl rfl (by show 0+2*1+1≤4*1;decide) (.bool b2) (.inr ⟨rfl,rfl,rfl⟩) ?_;conv=>whnf
   refine⟨fun _=>?_,fun _=>?_⟩<;>conv=>whnf
   ·refine(pick_con c hc _ n (by omega) (by omega) (by omega) (by omega) _ _ ho4).mono ?_;rintro r _ ⟨_,rfl,_,_,ho5⟩;conv=>whnf
    have q5:p≤p4+1∧p4+1≤p+4:=by omega
    generalize p4+1=p5 at ho5 q5;clear ho4;refine Ext.index slBool.u slBool.size rfl rfl rfl 3 rfl (by decide) ?_;conv=>whnf
    refine Ext.load tbE_ok rfl rfl (form_at ho5) rfl rfl (by show 0+3*1+1≤4*1;decide) (.bool b3) (.inr ⟨rfl,rfl,rfl⟩) ?_;conv=>whnf
    refine⟨fun _=>?_,fun _=>?_⟩<;>conv=>whnf
    ·refine(l71Good_con c hc p5 (by omega) (by omega) _ _ ho5).mono ?_;rintro r _ ⟨_,p6,rfl,_,_,_,ho6⟩;conv=>whnf
     have q6:p≤p6∧p6≤p+10:=by omega
     clear ho5;refine⟨fun _=>?_,fun _=>?_⟩<;>conv=>whnf
     ·refine(pick_con c hc _ 3 (by omega) (by omega) (by omega) (by omega) _ _ ho6).mono ?_;rintro r h7 ⟨x7,rfl,_,_,ho7⟩;conv=>whnf
      exact⟨⟨_,_,_,_,_,_⟩,_,rfl,by omega,by omega,(w_row ho7).tail⟩
     ·refine⟨fun _=>?_,fun _=>?_⟩<;>conv=>whnf
      ·refine(pick_con c hc _ 2 (by omega) (by omega) (by omega) (by omega) _ _ ho6).mono ?_;rintro r h7 ⟨x7,rfl,_,_,ho7⟩;conv=>whnf
       exact⟨⟨_,_,_,_,_,_⟩,_,rfl,by omega,by omega,(w_row ho7).tail⟩
      ·exact⟨⟨_,_,_,_,_,_⟩,_,rfl,by omega,by omega,(w_row ho6).tail⟩
    ·have q6:p≤p5∧p5≤p+10:=by omega
     have ho6:=ho5;generalize p5=p6 at ho6 q6;clear ho5;refine⟨fun _=>?_,fun _=>?_⟩<;>conv=>whnf
     ·refine(pick_con c hc _ 3 (by omega) (by omega) (by omega) (by omega) _ _ ho6).mono ?_;rintro r h7 ⟨x7,rfl,_,_,ho7⟩;conv=>whnf
      exact⟨⟨_,_,_,_,_,_⟩,_,rfl,by omega,by omega,(w_row ho7).tail⟩
     ·refine⟨fun _=>?_,fun _=>?_⟩<;>conv=>whnf
      ·refine(pick_con c hc _ 2 (by omega) (by omega) (by omega) (by omega) _ _ ho6).mono ?_;rintro r h7 ⟨x7,rfl,_,_,ho7⟩;conv=>whnf
       exact⟨⟨_,_,_,_,_,_⟩,_,rfl,by omega,by omega,(w_row ho7).tail⟩
      ·exact⟨⟨_,_,_,_,_,_⟩,_,rfl,by omega,by omega,(w_row ho6).tail⟩
   ·have q5:p≤p4∧p4≤p+4:=by omega
    have ho5:=ho4;generalize p4=p5 at ho5 q5;clear ho4;refine Ext.index slBool.u slBool.size rfl rfl rfl 3 rfl (by decide) ?_;conv=>whnf
    refine Ext.load tbE_ok rfl rfl (form_at ho5) rfl rfl (by show 0+3*1+1≤4*1;decide) (.bool b3) (.inr ⟨rfl,rfl,rfl⟩) ?_;conv=>whnf
    refine⟨fun _=>?_,fun _=>?_⟩<;>conv=>whnf
    ·refine(l71Good_con c hc p5 (by omega) (by omega) _ _ ho5).mono ?_;rintro r _ ⟨_,p6,rfl,_,_,_,ho6⟩;conv=>whnf
     have q6:p≤p6∧p6≤p+10:=by omega
     clear ho5;refine⟨fun _=>?_,fun _=>?_⟩<;>conv=>whnf
     ·refine(pick_con c hc _ 3 (by omega) (by omega) (by omega) (by omega) _ _ ho6).mono ?_;rintro r h7 ⟨x7,rfl,_,_,ho7⟩;conv=>whnf
      exact⟨⟨_,_,_,_,_,_⟩,_,rfl,by omega,by omega,(w_row ho7).tail⟩
     ·refine⟨fun _=>?_,fun _=>?_⟩<;>conv=>whnf
      ·refine(pick_con c hc _ 2 (by omega) (by omega) (by omega) (by omega) _ _ ho6).mono ?_;rintro r h7 ⟨x7,rfl,_,_,ho7⟩;conv=>whnf
       exact⟨⟨_,_,_,_,_,_⟩,_,rfl,by omega,by omega,(w_row ho7).tail⟩
      ·exact⟨⟨_,_,_,_,_,_⟩,_,rfl,by omega,by omega,(w_row ho6).tail⟩
    ·have q6:p≤p5∧p5≤p+10:=by omega
     have ho6:=ho5;generalize p5=p6 at ho6 q6;clear ho5;refine⟨fun _=>?_,fun _=>?_⟩<;>conv=>whnf
     ·refine(pick_con c hc _ 3 (by omega) (by omega) (by omega) (by omega) _ _ ho6).mono ?_;rintro r h7 ⟨x7,rfl,_,_,ho7⟩;conv=>whnf
      exact⟨⟨_,_,_,_,_,_⟩,_,rfl,by omega,by omega,(w_row ho7).tail⟩
     ·refine⟨fun _=>?_,fun _=>?_⟩<;>conv=>whnf
      ·refine(pick_con c hc _ 2 (by omega) (by omega) (by omega) (by omega) _ _ ho6).mono ?_;rintro r h7 ⟨x7,rfl,_,_,ho7⟩;conv=>whnf
       exact⟨⟨_,_,_,_,_,_⟩,_,rfl,by omega,by omega,(w_row ho7).tail⟩
      ·exact⟨⟨_,_,_,_,_,_⟩,_,rfl,by omega,by omega,(w_row ho6).tail⟩
  ·have q4:p≤p3∧p3≤p+3:=by omega
   have ho4:=ho3;generalize p3=p4 at ho4 q4;clear ho3;refine Ext.index slBool.u slBool.size rfl rfl rfl 2 rfl (by decide) ?_;conv=>whnf
   refine Ext.load tbE_ok rfl rfl (form_at ho4) rfl rfl (by show 0+2*1+1≤4*1;decide) (.bool b2) (.inr ⟨rfl,rfl,rfl⟩) ?_;conv=>whnf
   refine⟨fun _=>?_,fun _=>?_⟩<;>conv=>whnf
   ·refine(pick_con c hc _ n (by omega) (by omega) (by omega) (by omega) _ _ ho4).mono ?_;rintro r _ ⟨_,rfl,_,_,ho5⟩;conv=>whnf
    have q5:p≤p4+1∧p4+1≤p+4:=by omega
    generalize p4+1=p5 at ho5 q5;clear ho4;refine Ext.index slBool.u slBool.size rfl rfl rfl 3 rfl (by decide) ?_;conv=>whnf
    refine Ext.load tbE_ok rfl rfl (form_at ho5) rfl rfl (by show 0+3*1+1≤4*1;decide) (.bool b3) (.inr ⟨rfl,rfl,rfl⟩) ?_;conv=>whnf
    refine⟨fun _=>?_,fun _=>?_⟩<;>conv=>whnf
    ·refine(l71Good_con c hc p5 (by omega) (by omega) _ _ ho5).mono ?_;rintro r _ ⟨_,p6,rfl,_,_,_,ho6⟩;conv=>whnf
     have q6:p≤p6∧p6≤p+10:=by omega
     clear ho5;refine⟨fun _=>?_,fun _=>?_⟩<;>conv=>whnf
     ·refine(pick_con c hc _ 3 (by omega) (by omega) (by omega) (by omega) _ _ ho6).mono ?_;rintro r h7 ⟨x7,rfl,_,_,ho7⟩;conv=>whnf
      exact⟨⟨_,_,_,_,_,_⟩,_,rfl,by omega,by omega,(w_row ho7).tail⟩
     ·refine⟨fun _=>?_,fun _=>?_⟩<;>conv=>whnf
      ·refine(pick_con c hc _ 2 (by omega) (by omega) (by omega) (by omega) _ _ ho6).mono ?_;rintro r h7 ⟨x7,rfl,_,_,ho7⟩;conv=>whnf
       exact⟨⟨_,_,_,_,_,_⟩,_,rfl,by omega,by omega,(w_row ho7).tail⟩
      ·exact⟨⟨_,_,_,_,_,_⟩,_,rfl,by omega,by omega,(w_row ho6).tail⟩
    ·have q6:p≤p5∧p5≤p+10:=by omega
     have ho6:=ho5;generalize p5=p6 at ho6 q6;clear ho5;refine⟨fun _=>?_,fun _=>?_⟩<;>conv=>whnf
     ·refine(pick_con c hc _ 3 (by omega) (by omega) (by omega) (by omega) _ _ ho6).mono ?_;rintro r h7 ⟨x7,rfl,_,_,ho7⟩;conv=>whnf
      exact⟨⟨_,_,_,_,_,_⟩,_,rfl,by omega,by omega,(w_row ho7).tail⟩
     ·refine⟨fun _=>?_,fun _=>?_⟩<;>conv=>whnf
      ·refine(pick_con c hc _ 2 (by omega) (by omega) (by omega) (by omega) _ _ ho6).mono ?_;rintro r h7 ⟨x7,rfl,_,_,ho7⟩;conv=>whnf
       exact⟨⟨_,_,_,_,_,_⟩,_,rfl,by omega,by omega,(w_row ho7).tail⟩
      ·exact⟨⟨_,_,_,_,_,_⟩,_,rfl,by omega,by omega,(w_row ho6).tail⟩
   ·have q5:p≤p4∧p4≤p+4:=by omega
    have ho5:=ho4;generalize p4=p5 at ho5 q5;clear ho4;refine Ext.index slBool.u slBool.size rfl rfl rfl 3 rfl (by decide) ?_;conv=>whnf
    refine Ext.load tbE_ok rfl rfl (form_at ho5) rfl rfl (by show 0+3*1+1≤4*1;decide) (.bool b3) (.inr ⟨rfl,rfl,rfl⟩) ?_;conv=>whnf
    refine⟨fun _=>?_,fun _=>?_⟩<;>conv=>whnf
    ·refine(l71Good_con c hc p5 (by omega) (by omega) _ _ ho5).mono ?_;rintro r _ ⟨_,p6,rfl,_,_,_,ho6⟩;conv=>whnf
     have q6:p≤p6∧p6≤p+10:=by omega
     clear ho5;refine⟨fun _=>?_,fun _=>?_⟩<;>conv=>whnf
     ·refine(pick_con c hc _ 3 (by omega) (by omega) (by omega) (by omega) _ _ ho6).mono ?_;rintro r h7 ⟨x7,rfl,_,_,ho7⟩;conv=>whnf
      exact⟨⟨_,_,_,_,_,_⟩,_,rfl,by omega,by omega,(w_row ho7).tail⟩
     ·refine⟨fun _=>?_,fun _=>?_⟩<;>conv=>whnf
      ·refine(pick_con c hc _ 2 (by omega) (by omega) (by omega) (by omega) _ _ ho6).mono ?_;rintro r h7 ⟨x7,rfl,_,_,ho7⟩;conv=>whnf
       exact⟨⟨_,_,_,_,_,_⟩,_,rfl,by omega,by omega,(w_row ho7).tail⟩
      ·exact⟨⟨_,_,_,_,_,_⟩,_,rfl,by omega,by omega,(w_row ho6).tail⟩
    ·have q6:p≤p5∧p5≤p+10:=by omega
     have ho6:=ho5;generalize p5=p6 at ho6 q6;clear ho5;refine⟨fun _=>?_,fun _=>?_⟩<;>conv=>whnf
     ·refine(pick_con c hc _ 3 (by omega) (by omega) (by omega) (by omega) _ _ ho6).mono ?_;rintro r h7 ⟨x7,rfl,_,_,ho7⟩;conv=>whnf
      exact⟨⟨_,_,_,_,_,_⟩,_,rfl,by omega,by omega,(w_row ho7).tail⟩
     ·refine⟨fun _=>?_,fun _=>?_⟩<;>conv=>whnf
      ·refine(pick_con c hc _ 2 (by omega) (by omega) (by omega) (by omega) _ _ ho6).mono ?_;rintro r h7 ⟨x7,rfl,_,_,ho7⟩;conv=>whnf
       exact⟨⟨_,_,_,_,_,_⟩,_,rfl,by omega,by omega,(w_row ho7).tail⟩
      ·exact⟨⟨_,_,_,_,_,_⟩,_,rfl,by omega,by omega,(w_row ho6).tail⟩
 ·have q3:p≤p+1∧p+1≤p+2:=by omega
  have ho3:=ho2;generalize p+1=p3 at ho3 q3;clear ho2;refine Ext.index slBool.u slBool.size rfl rfl rfl 1 rfl (by decide) ?_;conv=>whnf
  refine Ext.load tbE_ok rfl rfl (form_at ho3) rfl rfl (by show 0+1*1+1≤4*1;decide) (.bool b1) (.inr ⟨rfl,rfl,rfl⟩) ?_;conv=>whnf
  refine⟨fun _=>?_,fun _=>?_⟩<;>conv=>whnf
  ·refine(pick_con c hc _ 4 (by omega) (by omega) (by omega) (by omega) _ _ ho3).mono ?_;rintro r _ ⟨_,rfl,_,_,ho4⟩;conv=>whnf
   have q4:p≤p3+1∧p3+1≤p+3:=by omega
   generalize p3+1=p4 at ho4 q4;clear ho3;refine Ext.index slBool.u slBool.size rfl rfl rfl 2 rfl (by decide) ?_;conv=>whnf
   refine Ext.load tbE_ok rfl rfl (form_at ho4) rfl rfl (by show 0+2*1+1≤4*1;decide) (.bool b2) (.inr ⟨rfl,rfl,rfl⟩) ?_;conv=>whnf
   refine⟨fun _=>?_,fun _=>?_⟩<;>conv=>whnf
   ·refine(pick_con c hc _ n (by omega) (by omega) (by omega) (by omega) _ _ ho4).mono ?_;rintro r _ ⟨_,rfl,_,_,ho5⟩;conv=>whnf
    have q5:p≤p4+1∧p4+1≤p+4:=by omega
    generalize p4+1=p5 at ho5 q5;clear ho4;refine Ext.index slBool.u slBool.size rfl rfl rfl 3 rfl (by decide) ?_;conv=>whnf
    refine Ext.load tbE_ok rfl rfl (form_at ho5) rfl rfl (by show 0+3*1+1≤4*1;decide) (.bool b3) (.inr ⟨rfl,rfl,rfl⟩) ?_;conv=>whnf
    refine⟨fun _=>?_,fun _=>?_⟩<;>conv=>whnf
    ·refine(l71Good_con c hc p5 (by omega) (by omega) _ _ ho5).mono ?_;rintro r _ ⟨_,p6,rfl,_,_,_,ho6⟩;conv=>whnf
     have q6:p≤p6∧p6≤p+10:=by omega
     clear ho5;refine⟨fun _=>?_,fun _=>?_⟩<;>conv=>whnf
     ·refine(pick_con c hc _ 3 (by omega) (by omega) (by omega) (by omega) _ _ ho6).mono ?_;rintro r h7 ⟨x7,rfl,_,_,ho7⟩;conv=>whnf
      exact⟨⟨_,_,_,_,_,_⟩,_,rfl,by omega,by omega,(w_row ho7).tail⟩
     ·refine⟨fun _=>?_,fun _=>?_⟩<;>conv=>whnf
      ·refine(pick_con c hc _ 2 (by omega) (by omega) (by omega) (by omega) _ _ ho6).mono ?_;rintro r h7 ⟨x7,rfl,_,_,ho7⟩;conv=>whnf
       exact⟨⟨_,_,_,_,_,_⟩,_,rfl,by omega,by omega,(w_row ho7).tail⟩
      ·exact⟨⟨_,_,_,_,_,_⟩,_,rfl,by omega,by omega,(w_row ho6).tail⟩
    ·have q6:p≤p5∧p5≤p+10:=by omega
     have ho6:=ho5;generalize p5=p6 at ho6 q6;clear ho5;refine⟨fun _=>?_,fun _=>?_⟩<;>conv=>whnf
     ·refine(pick_con c hc _ 3 (by omega) (by omega) (by omega) (by omega) _ _ ho6).mono ?_;rintro r h7 ⟨x7,rfl,_,_,ho7⟩;conv=>whnf
      exact⟨⟨_,_,_,_,_,_⟩,_,rfl,by omega,by omega,(w_row ho7).tail⟩
     ·refine⟨fun _=>?_,fun _=>?_⟩<;>conv=>whnf
      ·refine(pick_con c hc _ 2 (by omega) (by omega) (by omega) (by omega) _ _ ho6).mono ?_;rintro r h7 ⟨x7,rfl,_,_,ho7⟩;conv=>whnf
       exact⟨⟨_,_,_,_,_,_⟩,_,rfl,by omega,by omega,(w_row ho7).tail⟩
      ·exact⟨⟨_,_,_,_,_,_⟩,_,rfl,by omega,by omega,(w_row ho6).tail⟩
   ·have q5:p≤p4∧p4≤p+4:=by omega
    have ho5:=ho4;generalize p4=p5 at ho5 q5;clear ho4;refine Ext.index slBool.u slBool.size rfl rfl rfl 3 rfl (by decide) ?_;conv=>whnf
    refine Ext.load tbE_ok rfl rfl (form_at ho5) rfl rfl (by show 0+3*1+1≤4*1;decide) (.bool b3) (.inr ⟨rfl,rfl,rfl⟩) ?_;conv=>whnf
    refine⟨fun _=>?_,fun _=>?_⟩<;>conv=>whnf
    ·refine(l71Good_con c hc p5 (by omega) (by omega) _ _ ho5).mono ?_;rintro r _ ⟨_,p6,rfl,_,_,_,ho6⟩;conv=>whnf
     have q6:p≤p6∧p6≤p+10:=by omega
     clear ho5;refine⟨fun _=>?_,fun _=>?_⟩<;>conv=>whnf
     ·refine(pick_con c hc _ 3 (by omega) (by omega) (by omega) (by omega) _ _ ho6).mono ?_;rintro r h7 ⟨x7,rfl,_,_,ho7⟩;conv=>whnf
      exact⟨⟨_,_,_,_,_,_⟩,_,rfl,by omega,by omega,(w_row ho7).tail⟩
     ·refine⟨fun _=>?_,fun _=>?_⟩<;>conv=>whnf
      ·refine(pick_con c hc _ 2 (by omega) (by omega) (by omega) (by omega) _ _ ho6).mono ?_;rintro r h7 ⟨x7,rfl,_,_,ho7⟩;conv=>whnf
       exact⟨⟨_,_,_,_,_,_⟩,_,rfl,by omega,by omega,(w_row ho7).tail⟩
      ·exact⟨⟨_,_,_,_,_,_⟩,_,rfl,by omega,by omega,(w_row ho6).tail⟩
    ·have q6:p≤p5∧p5≤p+10:=by omega
     have ho6:=ho5;generalize p5=p6 at ho6 q6;clear ho5;refine⟨fun _=>?_,fun _=>?_⟩<;>conv=>whnf
     ·refine(pick_con c hc _ 3 (by omega) (by omega) (by omega) (by omega) _ _ ho6).mono ?_;rintro r h7 ⟨x7,rfl,_,_,ho7⟩;conv=>whnf
      exact⟨⟨_,_,_,_,_,_⟩,_,rfl,by omega,by omega,(w_row ho7).tail⟩
     ·refine⟨fun _=>?_,fun _=>?_⟩<;>conv=>whnf
      ·refine(pick_con c hc _ 2 (by omega) (by omega) (by omega) (by omega) _ _ ho6).mono ?_;rintro r h7 ⟨x7,rfl,_,_,ho7⟩;conv=>whnf
       exact⟨⟨_,_,_,_,_,_⟩,_,rfl,by omega,by omega,(w_row ho7).tail⟩
      ·exact⟨⟨_,_,_,_,_,_⟩,_,rfl,by omega,by omega,(w_row ho6).tail⟩
  ·have q4:p≤p3∧p3≤p+3:=by omega
   have ho4:=ho3;generalize p3=p4 at ho4 q4;clear ho3;refine Ext.index slBool.u slBool.size rfl rfl rfl 2 rfl (by decide) ?_;conv=>whnf
   refine Ext.load tbE_ok rfl rfl (form_at ho4) rfl rfl (by show 0+2*1+1≤4*1;decide) (.bool b2) (.inr ⟨rfl,rfl,rfl⟩) ?_;conv=>whnf
   refine⟨fun _=>?_,fun _=>?_⟩<;>conv=>whnf
   ·refine(pick_con c hc _ n (by omega) (by omega) (by omega) (by omega) _ _ ho4).mono ?_;rintro r _ ⟨_,rfl,_,_,ho5⟩;conv=>whnf
    have q5:p≤p4+1∧p4+1≤p+4:=by omega
    generalize p4+1=p5 at ho5 q5;clear ho4;refine Ext.index slBool.u slBool.size rfl rfl rfl 3 rfl (by decide) ?_;conv=>whnf
    refine Ext.load tbE_ok rfl rfl (form_at ho5) rfl rfl (by show 0+3*1+1≤4*1;decide) (.bool b3) (.inr ⟨rfl,rfl,rfl⟩) ?_;conv=>whnf
    refine⟨fun _=>?_,fun _=>?_⟩<;>conv=>whnf
    ·refine(l71Good_con c hc p5 (by omega) (by omega) _ _ ho5).mono ?_;rintro r _ ⟨_,p6,rfl,_,_,_,ho6⟩;conv=>whnf
     have q6:p≤p6∧p6≤p+10:=by omega
     clear ho5;refine⟨fun _=>?_,fun _=>?_⟩<;>conv=>whnf
     ·refine(pick_con c hc _ 3 (by omega) (by omega) (by omega) (by omega) _ _ ho6).mono ?_;rintro r h7 ⟨x7,rfl,_,_,ho7⟩;conv=>whnf
      exact⟨⟨_,_,_,_,_,_⟩,_,rfl,by omega,by omega,(w_row ho7).tail⟩
     ·refine⟨fun _=>?_,fun _=>?_⟩<;>conv=>whnf
      ·refine(pick_con c hc _ 2 (by omega) (by omega) (by omega) (by omega) _ _ ho6).mono ?_;rintro r h7 ⟨x7,rfl,_,_,ho7⟩;conv=>whnf
       exact⟨⟨_,_,_,_,_,_⟩,_,rfl,by omega,by omega,(w_row ho7).tail⟩
      ·exact⟨⟨_,_,_,_,_,_⟩,_,rfl,by omega,by omega,(w_row ho6).tail⟩
    ·have q6:p≤p5∧p5≤p+10:=by omega
     have ho6:=ho5;generalize p5=p6 at ho6 q6;clear ho5;refine⟨fun _=>?_,fun _=>?_⟩<;>conv=>whnf
     ·refine(pick_con c hc _ 3 (by omega) (by omega) (by omega) (by omega) _ _ ho6).mono ?_;rintro r h7 ⟨x7,rfl,_,_,ho7⟩;conv=>whnf
      exact⟨⟨_,_,_,_,_,_⟩,_,rfl,by omega,by omega,(w_row ho7).tail⟩
     ·refine⟨fun _=>?_,fun _=>?_⟩<;>conv=>whnf
      ·refine(pick_con c hc _ 2 (by omega) (by omega) (by omega) (by omega) _ _ ho6).mono ?_;rintro r h7 ⟨x7,rfl,_,_,ho7⟩;conv=>whnf
       exact⟨⟨_,_,_,_,_,_⟩,_,rfl,by omega,by omega,(w_row ho7).tail⟩
      ·exact⟨⟨_,_,_,_,_,_⟩,_,rfl,by omega,by omega,(w_row ho6).tail⟩
   ·have q5:p≤p4∧p4≤p+4:=by omega
    have ho5:=ho4;generalize p4=p5 at ho5 q5;clear ho4;refine Ext.index slBool.u slBool.size rfl rfl rfl 3 rfl (by decide) ?_;conv=>whnf
    refine Ext.load tbE_ok rfl rfl (form_at ho5) rfl rfl (by show 0+3*1+1≤4*1;decide) (.bool b3) (.inr ⟨rfl,rfl,rfl⟩) ?_;conv=>whnf
    refine⟨fun _=>?_,fun _=>?_⟩<;>conv=>whnf
    ·refine(l71Good_con c hc p5 (by omega) (by omega) _ _ ho5).mono ?_;rintro r _ ⟨_,p6,rfl,_,_,_,ho6⟩;conv=>whnf
     have q6:p≤p6∧p6≤p+10:=by omega
     clear ho5;refine⟨fun _=>?_,fun _=>?_⟩<;>conv=>whnf
     ·refine(pick_con c hc _ 3 (by omega) (by omega) (by omega) (by omega) _ _ ho6).mono ?_;rintro r h7 ⟨x7,rfl,_,_,ho7⟩;conv=>whnf
      exact⟨⟨_,_,_,_,_,_⟩,_,rfl,by omega,by omega,(w_row ho7).tail⟩
     ·refine⟨fun _=>?_,fun _=>?_⟩<;>conv=>whnf
      ·refine(pick_con c hc _ 2 (by omega) (by omega) (by omega) (by omega) _ _ ho6).mono ?_;rintro r h7 ⟨x7,rfl,_,_,ho7⟩;conv=>whnf
       exact⟨⟨_,_,_,_,_,_⟩,_,rfl,by omega,by omega,(w_row ho7).tail⟩
      ·exact⟨⟨_,_,_,_,_,_⟩,_,rfl,by omega,by omega,(w_row ho6).tail⟩
    ·have q6:p≤p5∧p5≤p+10:=by omega
     have ho6:=ho5;generalize p5=p6 at ho6 q6;clear ho5;refine⟨fun _=>?_,fun _=>?_⟩<;>conv=>whnf
     ·refine(pick_con c hc _ 3 (by omega) (by omega) (by omega) (by omega) _ _ ho6).mono ?_;rintro r h7 ⟨x7,rfl,_,_,ho7⟩;conv=>whnf
      exact⟨⟨_,_,_,_,_,_⟩,_,rfl,by omega,by omega,(w_row ho7).tail⟩
     ·refine⟨fun _=>?_,fun _=>?_⟩<;>conv=>whnf
      ·refine(pick_con c hc _ 2 (by omega) (by omega) (by omega) (by omega) _ _ ho6).mono ?_;rintro r h7 ⟨x7,rfl,_,_,ho7⟩;conv=>whnf
       exact⟨⟨_,_,_,_,_,_⟩,_,rfl,by omega,by omega,(w_row ho7).tail⟩
      ·exact⟨⟨_,_,_,_,_,_⟩,_,rfl,by omega,by omega,(w_row ho6).tail⟩
abbrev zeroO:List Value:=[.int .i64 0,.int .i64 0,.int .i64 0,.int .i64 0,.int .i64 0,.int .i64 0]
theorem Ext.litO {o:Oper} {y:Operand} (ho:o.op=.buildSlice 23 1 #[(0,y)]) {ev:Operand→Value} {h:Hp} {K:Option Value→Hp→Prop} {l:List Atom} (hown:Own h l) (x:OpD) (hy:ev y=.agg x.cells.toArray) (k:∀g h',h.le h'→Own h' (.row ⟨80,6,.slice (some ⟨g,0,none⟩) 1 1,1,encO x⟩::l)→K (some (.slice (some ⟨g,0,none⟩) 1 1)) h'):Ext Tryz.prog (execOp ev o) h K :=
 Ext.buildSlice slOp ho hown zeroO (fun w=>⟨_,Tryz.zeroValue80 w,by kernel_rfl⟩) (encO x) (by simp [hy];rfl) rfl (by decide) k
theorem one_op (x:OpD):∀u∈encO x,u.oneCell'=true:=by simp [encO,Value.oneCell']
theorem one_ops (L:List OpD):∀u∈L.flatMap encO,u.oneCell'=true:=fun u hu=>by
 obtain⟨x,_,hx⟩:=List.mem_flatMap.1 hu;exact one_op x u hx
theorem Ext.pushO {o:Oper} {s y:Operand} (ho:o.op=.call { callee:=.builtin .append,args:=#[s,y],argTypes:=#[23,23] }) {ev:Operand→Value} {h:Hp} {K:Option Value→Hp→Prop} {l:List Atom} {tv v:Value} {x:OpD} {L:List OpD}
  (hown:Own h (.row ⟨80,6,tv,1,encO x⟩::.row (rowO v L)::l)) (hs:ev s=v) (hy:ev y=tv) (hn:L.length<1000000) (k:∀a c h',Own h' (.row (rowO (.slice a (L++[x]).length c) (L++[x]))::l)→K (some (.slice a (L++[x]).length c)) h'):Ext Tryz.prog (execOp ev o) h K:=by
 refine Ext.append slOp ho hown.swap rfl rfl hs hy (RowOk.src (hown.ok _ List.mem_cons_self) (one_op x)) (by show (L.length+1)*48≤_;omega) (by show L.length+1≤_;unfold maxLen;omega) fun v' h' ho1=>?_
 have e:(⟨80,6,v',L.length+1,L.flatMap encO++encO x⟩:Row)=rowO v' (L++[x]):=by simp [rowO]
 have ho2:Own h' (.row (rowO v' (L++[x]))::l):=by rw [←e];exact ho1.drop2
 obtain⟨a,c,hv⟩:=RowOk.form' (ho2.ok _ List.mem_cons_self);dsimp only at hv;subst hv;exact k a c h' ho2
theorem Ext.storeOp {o:Oper} {y z:Operand} (ho:o.op=.store 80 y z) {ev:Operand→Value} {h:Hp} {K:Option Value→Hp→Prop} {l:List Atom} {v:Value} {L:List OpD} {i:Nat} (hi:i<L.length) {g cap:Nat} (hv:v=.slice (some ⟨g,0,none⟩) L.length cap) (x:OpD)
  (hown:Own h (.row (rowO v L)::l)) (hy:ev y=.pointer (some ⟨g,0+i*6,none⟩)) (hz:ev z=.agg x.cells.toArray) (k:∀h',Own h' (.row (rowO v (L.set i x))::l)→K none h'):Ext Tryz.prog (execOp ev o) h K:=by
 refine Ext.store tbE_ok rfl ho hown hv hy hz (encO x) rfl rfl (by show 0+i*6+6≤L.length*6;omega) (by simp [encO,Value.oneCell']) fun h' ho'=>k h' ?_
 have e1:putL (0+i*6) (encO x) (L.flatMap encO)=(L.set i x).flatMap encO:=by
  have:=flat_set encO 6 encO_len L i hi 0 (encO x) (by simp [encO]) x (by simp [putL,encO]);rw [Nat.zero_add,←this,Nat.add_zero]
 have e2:({ rowO v L with xs:=putL (0+i*6) (encO x) (L.flatMap encO) }:Row)=rowO v (L.set i x):=by
  simp only [e1,rowO,List.length_set]
 rw [e2] at ho';exact ho'
theorem l71Random_con (c:RdC) (hc:c.Ok) (p:Int) (hp0:0≤p) (hp1:p≤700000) (h:Hp) (l:List Atom) (ho:Own h (c.atoms p++l)) :
  Con Tryz.prog 68 #[.pointer (some ⟨c.R,0,none⟩)] h fun r h'=>∃(C:List OpD) (a:Option Addr) (k:Nat) (p':Int),r=.slice a C.length k∧3≤C.length∧C.length≤10∧p≤p'∧p'≤p+160∧Own h' (.row (rowO (.slice a C.length k) C)::(c.atoms p'++l)):=by
 refine Con.of_W (tb:=tbE) (args:=[.pointer (some ⟨c.R,0,none⟩)]) Tryz.func68 rfl Tryz.results68 Tryz.ntmps68 (by simp) (Tryz.call68 _) (tm:=[(0,.v (.pointer (some ⟨c.R,0,none⟩)))]) rfl ?_;refine vc_ok ⟨tbE_ok,_,Tryz.func68,Tryz.results68,Tryz.ntmps68⟩ 400 _ _ _ _ ?_;conv=>whnf
 refine(pick_con c hc p 8 hp0 (by omega) (by omega) (by omega) h l ho).mono ?_;rintro r h1 ⟨m,rfl,hm0,hm1,ho1⟩;conv=>whnf
 have hn:IntKind.i64.wrap (3+m)=3+m:=wrapN _ (by omega) (by omega);rw [hn];obtain⟨n,hne⟩:∃n:Nat,3+m=(n:Int):=⟨(3+m).toNat,by omega⟩;rw [hne];refine Ext.buildSlice slOp rfl ho1 [] (fun w=>⟨_,Tryz.zeroValue80 w,by kernel_rfl⟩) [] rfl rfl (by decide) fun g h2 _ ho2=>?_
 conv=>whnf
 have hnb:3≤n∧n≤10:=by omega
 clear hne hn ho1 ho;refine W.cut [(0,.v (.pointer (some ⟨c.R,0,none⟩))),(3,.v (.int .i64 n)),(4,.v (.slice (some ⟨g,0,none⟩) 0 0)),(5,.v (.int .i64 (0:Nat)))] [] [] ⟨rfl,rfl,rfl,rfl,trivial⟩ rfl rfl ⟨_,rfl⟩ ?_;refine W.loop (α:=Nat×List OpD×Option Addr×Nat×Int) (fun x=>[(0,.v (.pointer (some ⟨c.R,0,none⟩))),(3,.v (.int .i64 n)),(4,.v (.slice x.2.2.1 x.2.1.length x.2.2.2.1)),(5,.v (.int .i64 (x.1:Int)))]) (fun _=>[])
  (fun x h'=>x.1≤n∧x.2.1.length=x.1∧p≤x.2.2.2.2∧x.2.2.2.2≤p+1+14*x.1∧Own h' (.row (rowO (.slice x.2.2.1 x.2.1.length x.2.2.2.1) x.2.1)::(c.atoms x.2.2.2.2++l))) (fun x=>n-x.1) ?_ (0,[],some ⟨g,0,none⟩,0,p+1) h2 ⟨Nat.zero_le _,rfl,by dsimp only;omega,by dsimp only;omega,ho2⟩
 rintro⟨i,out,a,cp,q⟩ h3 ⟨hi,hlen,hq1,hq2,ho3⟩ ih;dsimp only at hi hlen hq1 hq2 ho3 ⊢;refine vc_ok ⟨tbE_ok,_,Tryz.func68,Tryz.results68,Tryz.ntmps68⟩ 400 _ _ _ _ ?_;conv=>whnf
 refine⟨fun h4=>?_,fun h4=>?_⟩<;>conv=>whnf
 ·have hlt:i<n:=by simp at h4;omega
  refine(l71Op_con c hc q (by omega) (by omega) n (by omega) (by omega) h3 _ (w_lists (A:=c.atoms q) ho3)).mono ?_;rintro r h5 ⟨x,q2,rfl,hq3,hq4,ho5⟩;conv=>whnf
  refine Ext.litO rfl ho5 x rfl fun g6 h6 _ ho6=>?_
  conv=>whnf
  refine Ext.pushO rfl (w_row (A:=[_]++c.atoms q2) ho6).swap rfl rfl (by omega) fun a' c' h7 ho7=>?_
  conv=>whnf
  have hw:IntKind.i64.wrap ((i:Int)+1)=((i+1:Nat):Int):=by rw [wrapN _ (by omega) (by omega)];omega
  rw [hw];exact W.back (ih (i+1,out++[x],a',c',q2) h7 ⟨hlt,by simp [hlen],by dsimp only;omega,by dsimp only;omega,ho7⟩ (by dsimp only;omega)) [] (by exact⟨rfl,rfl,rfl,rfl,trivial⟩) rfl rfl
 ·have hge:i=n:=by simp at h4;omega
  subst hge;refine(pick_con c hc q i (by omega) (by omega) (by omega) (by omega) h3 _ (w_lists (A:=c.atoms q) ho3)).mono ?_;rintro r h5 ⟨z,rfl,_,_,ho5⟩;conv=>whnf
  refine(pick_con c hc (q+1) 3 (by omega) (by omega) (by omega) (by omega) h5 _ ho5).mono ?_;rintro r h6 ⟨y,rfl,_,_,ho6⟩;conv=>whnf
  have ho7:=w_row ho6;obtain⟨go,hao⟩:=row_some (ho7.ok _ List.mem_cons_self) (by show 0<out.length;omega);subst hao;have hz:IntKind.i64.wrap ((i:Int)-1)=((i-1:Nat):Int):=by rw [wrapN _ (by omega) (by omega)];omega
  refine⟨fun _=>?_,fun _=>?_⟩<;>conv=>whnf
  all_goals
   refine Ext.index slOp.u slOp.size rfl rfl rfl (i-1) hz (by omega) ?_;conv=>whnf
  ·refine Ext.storeOp rfl (by omega) rfl ⟨14,0,0,0,0,0⟩ ho7 rfl rfl fun h8 ho8=>?_
   conv=>whnf
   refine⟨out.set (i-1) ⟨14,0,0,0,0,0⟩,some ⟨go,0,none⟩,cp,q+1+1,?_,by rw [List.length_set];omega,by rw [List.length_set];omega,by omega,by omega,?_⟩
   ·rw [List.length_set];rfl
   ·rw [List.length_set];exact ho8
  ·refine Ext.storeOp rfl (by omega) rfl ⟨9,0,0,z,0,0⟩ ho7 rfl rfl fun h8 ho8=>?_
   conv=>whnf
   refine⟨out.set (i-1) ⟨9,0,0,z,0,0⟩,some ⟨go,0,none⟩,cp,q+1+1,?_,by rw [List.length_set];omega,by rw [List.length_set];omega,by omega,by omega,?_⟩
   ·rw [List.length_set];rfl
   ·rw [List.length_set];exact ho8
abbrev OpD.toV (o:OpD):Eld.OpV:=⟨o.k,o.r,o.s,o.to,o.vk,o.vn⟩
abbrev OpD.ofV (o:Eld.OpV):OpD:=⟨o.k,o.r,o.s,o.t,o.a,o.b⟩
theorem ofV_toV (L:List Eld.OpV):(L.map OpD.ofV).map OpD.toV=L:=by
 rw [List.map_map];exact(List.map_congr_left (fun _ _=>rfl)).trans (List.map_id L)
theorem full_exists {C:List Eld.OpV} (hC:Eld.Well C):∃V,Eld.IsFull C V:=by
 have main:∀(n:Nat) (m:Nat) (v:List Int) (Q:List (Nat×Int)),Eld.sumR v≤n→Q.length≤m→Eld.Inv C v Q→∃V,Eld.IsFull C V:=by
  intro n
  induction n with
  |zero =>
   intro m
   induction m with
   |zero=>intro v Q _ hm h;have:Q=[]:=List.eq_nil_of_length_eq_zero (by omega);subst this;exact⟨v,Eld.inv_done h⟩
   |succ m ih =>
    intro v Q hn hm h
    cases Q with
    |nil=>exact⟨v,Eld.inv_done h⟩
    |cons p Q =>
     by_cases e:Eld.meet (Eld.atV v p.1) p.2=Eld.atV v p.1
     ·exact ih v Q hn (by simp at hm;omega) (Eld.inv_same h e)
     ·have:=Eld.sum_merge h.1 (h.2.2.1 p (by simp)) e;omega
  |succ n ihn =>
   intro m
   induction m with
   |zero=>intro v Q _ hm h;have:Q=[]:=List.eq_nil_of_length_eq_zero (by omega);subst this;exact⟨v,Eld.inv_done h⟩
   |succ m ih =>
    intro v Q hn hm h
    cases Q with
    |nil=>exact⟨v,Eld.inv_done h⟩
    |cons p Q =>
     by_cases e:Eld.meet (Eld.atV v p.1) p.2=Eld.atV v p.1
     ·exact ih v Q hn (by simp at hm;omega) (Eld.inv_same h e)
     ·have hs:=h.2.2.1 p (by simp);have:=Eld.sum_merge h.1 hs e;exact ihn _ _ _ (by omega) (Nat.le_refl _) (Eld.inv_less hC h hs.1)
 exact main _ _ _ _ (Nat.le_refl _) (Nat.le_refl _) (Eld.inv_start hC)
theorem has_more {x y r:Int} (hx:Eld.Bd x) (hy:Eld.Bd y) (h0:0≤x) (hy0:0≤y) (hr0:0≤r) (hr:r≤3) (h:Eld.Le x y) (hb:Eld.hasB x r=true):Eld.hasB y r=true:=by
 obtain⟨i,rfl⟩:=Eld.bd_fin hx;obtain⟨j,rfl⟩:=Eld.bd_fin hy;obtain⟨k,rfl⟩:=Eld.int_fin4 ⟨hr0,hr⟩;clear hx hy hr0 hr
 revert h0 hy0 h hb
 revert i j k
 decide +kernel
def leB (x y:Int):Bool:=y == -1||Eld.meet x y==x
def solB (C:List Eld.OpV) (u:List Int):Bool :=
 (u.length==C.length)&&u.all (fun x=>decide (-1≤x)&&decide (x≤15))&&leB (Eld.atV u 0) 1 &&
 (List.range C.length).all fun i=>match C[i]? with
  |some o=>decide (Eld.atV u i<0)||(Eld.waysL o i C.length (Eld.atV u i)).all fun p=>leB (Eld.atV u p.1) p.2
  |none=>false
def safeB (C:List Eld.OpV) (u:List Int):Bool :=
 (List.range C.length).all fun i=>match C[i]? with
  |some o=>decide (0≤Eld.atV u i)&&(Eld.usesL o.k o.r o.s).all (fun r=>Eld.hasB (Eld.atV u i) r)&&(Eld.endsB o.k||decide (i+1<C.length))
  |none=>false
theorem leB_of {x y:Int} (h:leB x y=true):Eld.Le x y:=by
 unfold leB at h;rw [Bool.or_eq_true,beq_iff_eq,beq_iff_eq] at h;exact h
theorem sol_of {C:List Eld.OpV} {u:List Int} (h:solB C u=true):Eld.Sol C u:=by
 simp only [solB,Bool.and_eq_true,beq_iff_eq,List.all_eq_true,decide_eq_true_eq,List.mem_range] at h;obtain⟨⟨⟨h1,h2⟩,h3⟩,h4⟩:=h;refine⟨⟨h1,fun i=>?_⟩,leB_of h3,fun i hi h0 p hp=>?_⟩
 ·unfold Eld.atV;rw [List.getD_eq_getElem?_getD];by_cases hi:i<u.length
  ·rw [List.getElem?_eq_getElem hi];exact h2 _ (List.getElem_mem hi)
  ·rw [List.getElem?_eq_none (by omega)];exact⟨by decide,by decide⟩
 ·have:=h4 i hi;rw [List.getElem?_eq_getElem hi] at this;simp only [Bool.or_eq_true,decide_eq_true_eq,List.all_eq_true] at this;rcases this with h|h
  ·omega
  ·exact leB_of (h p hp)
theorem safe_of {C:List Eld.OpV} {u:List Int} (hC:Eld.codeB C=true) (h:solB C u=true) (k:safeB C u=true):Eld.SafeOf C true:=by
 obtain⟨hw,_,hok⟩:=Eld.codeB_well hC;obtain⟨V,hV⟩:=full_exists hw;refine Eld.safe_yes hC hV fun i hi _ h0=>?_
 simp only [safeB,List.all_eq_true,List.mem_range] at k;have:=k i hi;rw [List.getElem?_eq_getElem hi] at this;simp only [Bool.and_eq_true,Bool.or_eq_true,decide_eq_true_eq,List.all_eq_true] at this;obtain⟨⟨h1,h2⟩,h3⟩:=this;have hs:=sol_of h;have o:=Eld.opIs_of (hok i hi);refine⟨fun r hr=>?_,h3⟩;have hb:=Eld.uses_bd ⟨o.r1,o.r2⟩ ⟨o.s1,o.s2⟩ r hr;exact has_more (hs.1.2 i) (hV.1.1.2 i) h1 h0 hb.1 hb.2 (hV.2 u hs i) (h2 r hr)
theorem code0_safe:Eld.SafeOf Eld.code0 true:=safe_of (u:=[1,3,3,7,7,15,1,3,7,7,7]) Eld.code0_ok (by decide +kernel) (by decide +kernel)
theorem code1_safe:Eld.SafeOf Eld.code1 true:=safe_of (u:=[1,1,3,7,7,7,15,1,3,7,3,11]) Eld.code1_ok (by decide +kernel) (by decide +kernel)
theorem code2_safe:Eld.SafeOf Eld.code2 true:=safe_of (u:=[1,3,3,7,15,1,1,3,3,3]) Eld.code2_ok (by decide +kernel) (by decide +kernel)
theorem code3_safe:Eld.SafeOf Eld.code3 true:=safe_of (u:=[1,3,7,15,15,15,1,3,7]) Eld.code3_ok (by decide +kernel) (by decide +kernel)
theorem code4_safe:Eld.SafeOf Eld.code4 true:=safe_of (u:=[1,3,3,1,5,5,1,1,9]) Eld.code4_ok (by decide +kernel) (by decide +kernel)
theorem texts_safe (i:Nat) (h:i<5):∃D:List Eld.OpV,Eld.codeB D=true∧Eld.textsL.getD i []=Eld.linesOf D∧Eld.SafeOf D true:=by
 rcases (by omega:i=0∨i=1∨i=2∨i=3∨i=4) with rfl|rfl|rfl|rfl|rfl
 ·exact⟨_,Eld.code0_ok,Eld.text0_eq,code0_safe⟩
 ·exact⟨_,Eld.code1_ok,Eld.text1_eq,code1_safe⟩
 ·exact⟨_,Eld.code2_ok,Eld.text2_eq,code2_safe⟩
 ·exact⟨_,Eld.code3_ok,Eld.text3_eq,code3_safe⟩
 ·exact⟨_,Eld.code4_ok,Eld.text4_eq,code4_safe⟩
def comeV (C:List OpD) (V:List Int) (p:Nat):Prop:=p<C.length∧0≤Eld.atV V p
theorem safe_len {L:List OpD} (h:Eld.SafeOf (L.map OpD.toV) true):1≤L.length∧L.length≤16:=by
 rcases h with⟨h,_⟩|⟨_,h⟩
 ·have:=Eld.codeB_well h;have h1:=this.1.1;have h2:=this.2.1;rw [List.length_map] at h1 h2;exact⟨h1,h2⟩
 ·cases h
theorem safe_code {L:List OpD} (h:Eld.SafeOf (L.map OpD.toV) true):∃V,Eld.IsFull (L.map OpD.toV) V∧CodeR L (comeV L V)∧comeV L V 0:=by
 rcases h with⟨hC,V,hV,he⟩|⟨_,h⟩
 ·have hs:=he.1 rfl;obtain⟨hw,hl,hok⟩:=Eld.codeB_well hC;have hlen:(L.map OpD.toV).length=L.length:=List.length_map _;refine⟨V,hV,⟨fun p ⟨hp,h0⟩=>⟨hp,?_⟩⟩,⟨by have:=hw.1;omega,?_⟩⟩
  ·have hp':p<(L.map OpD.toV).length:=by omega
   have hg:(L.map OpD.toV)[p]=L[p].toV:=List.getElem_map _;have o:=Eld.opIs_of (hok p hp');rw [hg] at o;obtain⟨su,se⟩:=hs p hp' hp' h0;rw [hg] at se;have ways:=hV.1.2.2 p hp' h0;have wb:=Eld.ways_bd hw hp' (hV.1.1.2 p) h0;rw [hg,hlen] at ways wb;have come:∀q∈Eld.waysL L[p].toV p L.length (Eld.atV V p),comeV L V q.1:=fun q hq=>by
    obtain⟨b1,b2,b3⟩:=wb q hq;exact⟨b1,Eld.le_nn (hV.1.1.2 _) ⟨by omega,b3⟩ b2 (ways q hq)⟩
   have hnx:L[p].k≠9→L[p].k≠14→p+1<L.length:=fun e9 e14=>by
    rcases se with h|h
    ·simp [Eld.endsB] at h;omega
    ·omega
   refine⟨⟨⟨L[p].r.toNat,by have:=o.r1;simp at this;omega,by have:=o.r2;simp at this;omega⟩,⟨L[p].s.toNat,by have:=o.s1;simp at this;omega,by have:=o.s2;simp at this;omega⟩,hnx⟩,fun e9 e14=>?_,fun e=>?_,o.v⟩
   ·have hn:=hnx e9 e14;refine come (p+1,Eld.onB L[p].toV (Eld.atV V p)) (List.mem_append.2 (.inl ?_));unfold Eld.nextW;rw [if_pos (by simp [e9,e14,hn])];exact List.mem_singleton.2 rfl
   ·have ht:=o.t1;refine⟨L[p].to.toNat,by simp at ht;omega,?_⟩;by_cases e5:L[p].k=5
    ·refine come (L[p].to.toNat,1) (List.mem_append.2 (.inr ?_));unfold Eld.toW;rw [if_neg (by simp [e5]),if_pos e5];exact List.mem_singleton.2 rfl
    ·refine come (L[p].to.toNat,Eld.atV V p) (List.mem_append.2 (.inr ?_));unfold Eld.toW;rw [if_pos (by simp;omega)];exact List.mem_singleton.2 rfl
  ·exact Eld.le_nn (hV.1.1.2 0) ⟨by decide,by decide⟩ (by decide) hV.1.2.1
 ·cases h
theorem code_at {h:Hp} {a:Option Addr} {k:Nat} {L:List OpD} (o:RowOk h (rowO (.slice a L.length k) L)) {w:World} (hw:InH h w):Eld.CodeAt w a (L.map OpD.toV):=by
 by_cases h0:L.length=0
 ·have:L=[]:=List.eq_nil_of_length_eq_zero h0;subst this;exact .inl rfl
 ·obtain⟨g,ha⟩:=row_some o (by omega);subst ha;obtain⟨g',cap,cur,e1,hg,hnc,hcm,hcs,htk⟩:=RowOk.form o (by show 0<L.length;omega)
  cases e1
  have hg':=hw g _ hg;refine .inr ⟨g,0,rfl,hw.lt hg,fun i hi=>?_⟩;have hi':i<L.length:=by simpa using hi
  have key:∀j v,j<6→(encO L[i])[j]?=some v→w.cell? ⟨g,0+i*6+j,none⟩=some v:=fun j v hj e=>by
   rw [cell_of_row w g (0+i*6+j) cur _ _ hg',Nat.zero_add];have h1:=flat_get encO 6 encO_len L i hi' j hj;rw [e] at h1;have h2:(cur.toList.take (L.length*6))[i*6+j]?=some v:=by
    have:cur.toList.take (L.length*6)=L.flatMap encO:=htk;rw [this];exact h1
   rw [List.getElem?_take] at h2
   split at h2
   ·simpa using h2
   ·cases h2
  rw [List.getElem_map];exact⟨key 0 _ (by decide) rfl,key 1 _ (by decide) rfl,key 2 _ (by decide) rfl,key 3 _ (by decide) rfl,key 4 _ (by decide) rfl,key 5 _ (by decide) rfl⟩
theorem codeSafe_con (a:Option Addr) (k:Nat) (L:List OpD) (hL:L.length≤1000000) (h:Hp) (o:RowOk h (rowO (.slice a L.length k) L)) :
  Con Tryz.prog 39 #[.slice a L.length k] h fun r h'=>(∃b,r=.bool b∧Eld.SafeOf (L.map OpD.toV) b)∧h'=h:=by
 refine Con.of_below (Tryz.call39 _) fun w hw=>?_
 have:=Eld.specCodeSafe_any (L.map OpD.toV) a k w (by simp;omega) (code_at o hw);rw [List.length_map] at this;exact this.mono fun e w' ⟨b,he,hs,hb⟩=>⟨⟨_,he,b,rfl,hs⟩,hb⟩
theorem cellsO_flat:∀C:List Eld.OpV,Eld.cellsO C=(C.map OpD.ofV).flatMap encO
 |[]=>rfl
 |o::C=>by rw [List.map_cons,List.flatMap_cons,←cellsO_flat C];rfl
theorem Own.addO {h:Hp} {w w':World} (hw:InH h w) {l:List Atom} (ho:Own h l) {v:Value} {C:List Eld.OpV} (hv:Eld.OwnsO w' w.heap.size v C) (hb:Below w.heap.size w w') :
  ∃a k h',v=.slice a (C.map OpD.ofV).length k∧h.le h'∧Own h' (.row (rowO (.slice a (C.map OpD.ofV).length k) (C.map OpD.ofV))::l)∧InH h' w'∧Fr h w h' w':=by
 obtain⟨h1,⟨hn,h0⟩|⟨g,cap,cur,hg,hge,hh,hr⟩⟩:=hv
 ·have:C=[]:=List.eq_nil_of_length_eq_zero h0;subst this;subst hn;refine⟨none,0,h,rfl,Hp.le_refl _,ho.add ⟨rfl,.inl ⟨rfl,rfl⟩⟩ (fun g e=>by cases e) (fun _ _=>rfl),fun b o e=>by rw [hb.block b (hw.lt e)];exact hw b o e,⟨hb.os,hb.tape,hb.output,hb.size,fun b hl e=>⟨hb.block b hl,e⟩⟩⟩
 ·subst hg;have hnone:h g=none:=by
   cases e:h g with
   |none=>rfl
   |some o=>have:=hw.lt e;omega
  refine⟨some ⟨g,0,none⟩,cap,h.put g (.cells cur 80 (0,0)),by rw [List.length_map],fun b o e=>by rw [Hp.put_ne _ _ (fun e2=>by subst e2;rw [hnone] at e;cases e)];exact e,?_,?_,?_⟩
  ·refine ho.add ⟨?_,.inr ⟨g,cap,cur,rfl,Hp.put_same _ _ _,?_⟩⟩ (fun b e=>by cases e;exact hnone) (fun b e=>Hp.put_ne _ _ fun e2=>e (by subst e2;rfl))
   ·show ((C.map OpD.ofV).flatMap encO).length=(C.map OpD.ofV).length*6;exact flat_len encO 6 encO_len _
   ·show (C.map OpD.ofV).length≤cap∧cap≤maxLen∧cur.size=cap*6∧cur.toList.take ((C.map OpD.ofV).length*6)=(C.map OpD.ofV).flatMap encO;rw [List.length_map,←cellsO_flat];exact hr
  ·intro b o e;by_cases e2:b=g
   ·subst e2;rw [Hp.put_same] at e;cases e;exact hh
   ·rw [Hp.put_ne _ _ e2] at e;rw [hb.block b (hw.lt e)];exact hw b o e
  ·exact⟨hb.os,hb.tape,hb.output,hb.size,fun b hl e=>⟨hb.block b hl,by rw [Hp.put_ne _ _ (by omega)];exact e⟩⟩
theorem codeRead_con (x:List UInt8) (hx:x.length≤1048576) (h:Hp) (l:List Atom) (ho:Own h l) :
  Con Tryz.prog 142 #[.string ⟨x.toArray⟩] h fun r h'=>∃(C:List Eld.OpV) (a:Option Addr) (k:Nat) (ok:Bool),r=.tuple #[.slice a (C.map OpD.ofV).length k,.bool ok]∧Eld.ReadCode x C ok∧h.le h'∧Own h' (.row (rowO (.slice a (C.map OpD.ofV).length k) (C.map OpD.ofV))::l):=by
 refine⟨Tryz.call142 _,fun w hw=>(Eld.specCodeRead_any x w hx).mono fun e w' ⟨C,v,ok,he,hr,hv,hb⟩=>?_⟩;obtain⟨a,k,h',rfl,hle,hown,hi,hf⟩:=Own.addO hw ho hv hb;exact⟨_,h',he,⟨C,a,k,ok,rfl,hr,hle,hown⟩,hi,hf⟩
abbrev textRow (g:Nat):Row:=⟨9,1,.slice (some ⟨g,0,none⟩) 5 5,5,Eld.textsA.toList⟩
theorem texts_con (h:Hp) (l:List Atom) (ho:Own h l):Con Tryz.prog 144 #[] h fun r h'=>∃g,r=.slice (some ⟨g,0,none⟩) 5 5∧Own h' (.row (textRow g)::l):=by
 refine⟨Tryz.call144 _,fun w hw=>(Eld.texts_any w).mono fun e w' ⟨he,hw'⟩=>?_⟩;subst hw';have hnone:=heap_none hw;refine⟨_,h.put w.heap.size (.cells Eld.textsA 9 (0,0)),he,⟨w.heap.size,rfl,?_⟩,?_,?_⟩
 ·exact ho.add ⟨rfl,.inr ⟨w.heap.size,5,Eld.textsA,rfl,Hp.put_same _ _ _,Nat.le_refl _,by decide,rfl,rfl⟩⟩ (fun g e=>by cases e;exact hnone) (fun b e=>Hp.put_ne _ _ fun e2=>e (by subst e2;rfl))
 ·intro b o e;by_cases hb:b=w.heap.size
  ·subst hb;rw [Hp.put_same] at e;cases e;exact heap_alloc_new w _
  ·rw [Hp.put_ne _ _ hb] at e;rw [heap_alloc_old w _ (hw.lt e)];exact hw b o e
 ·exact⟨rfl,rfl,rfl,by simp,fun b hb e=>⟨heap_alloc_old w _ hb,by rw [Hp.put_ne _ _ (by omega)];exact e⟩⟩
def tbS:Tb:=[(9,⟨1,false,[.string ⟨#[]⟩],[],0⟩)]
theorem tbS_ok:TbOk Tryz.prog tbS:=by unfold TbOk;kernel_rfl
theorem slStr:SlTy Tryz.prog 153 9 1 16:=⟨Tryz.underlying153,⟨_,_,Tryz.type9,rfl,rfl,rfl,rfl⟩,by decide⟩
theorem of_con (c:RdC) (hc:c.Ok) (p:Int) (hp0:0≤p) (hp1:p≤900000) (g:Nat) (h:Hp) (l:List Atom) (ho:Own h (c.atoms p++.row (textRow g)::l)) :
  Con Tryz.prog 143 #[.pointer (some ⟨c.R,0,none⟩),.slice (some ⟨g,0,none⟩) 5 5] h fun r h'=>∃n,n<5∧r=.string ⟨(Eld.textsL.getD n []).toArray⟩∧Own h' (c.atoms (p+1)++.row (textRow g)::l):=by
 refine Con.of_W (tb:=tbE) (args:=[.pointer (some ⟨c.R,0,none⟩),.slice (some ⟨g,0,none⟩) 5 5]) Tryz.func143 rfl Tryz.results143 Tryz.ntmps143 (by simp) (Tryz.call143 _) (tm:=[(0,.v (.pointer (some ⟨c.R,0,none⟩))),(1,.v (.slice (some ⟨g,0,none⟩) 5 5))]) rfl ?_;refine vc_ok ⟨tbE_ok,_,Tryz.func143,Tryz.results143,Tryz.ntmps143⟩ 400 _ _ _ _ ?_;conv=>whnf
 refine Ext.len slStr.u rfl rfl ?_;conv=>whnf
 refine(pick_con c hc p 5 hp0 (by omega) (by omega) (by omega) h _ ho).mono ?_;rintro r h1 ⟨n,rfl,hn0,hn1,ho1⟩;conv=>whnf
 refine Ext.index slStr.u slStr.size rfl rfl rfl n.toNat (by omega) (by omega) ?_;conv=>whnf
 refine Ext.load tbS_ok rfl rfl (ho1.rowOk (r:=textRow g) (by simp)) rfl rfl (by show 0+n.toNat*1+1≤5*1;omega) (.string ⟨(Eld.textsL.getD n.toNat []).toArray⟩) (.inr ⟨rfl,?_,rfl⟩) ?_
 ·show Eld.textsA.toList[0+n.toNat*1]?=_;rw [Nat.zero_add,Nat.mul_one,Array.getElem?_toList];exact Eld.textsA_at n.toNat (by omega)
 conv=>whnf
 exact⟨n.toNat,by omega,rfl,ho1⟩
end Go.Proofs.YtgmkmeodimmdoaaGreatDoor
