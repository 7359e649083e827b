import Derived.Test.YtgmkmeodimmdoaaGreatDoorBRexFv
namespace Go.Proofs.YtgmkmeodimmdoaaGreatDoor
open Go.RowKit
set_option maxRecDepth 100000
theorem IsWith.any {w:PW} {V:List Int} (ok:OkS w V) {id:Int} (hid:1≤id∧id≤(w.runs.length:Int)):∃L,IsWith w id L:=by
 classical
 refine⟨((List.range w.runs.length).map fun(k:Nat)=>(k:Int)+1).filter fun k=>decide (Reach w id k),?_,fun x=>?_⟩
 ·refine List.Pairwise.filter _ (List.pairwise_map.2 (List.pairwise_lt_range.imp fun h=>?_));omega
 ·rw [List.mem_filter,decide_eq_true_eq,List.mem_map];refine⟨fun h=>h.2,fun h=>⟨?_,h⟩⟩;have hr:=h.rng ok hid;exact⟨(x-1).toNat,List.mem_range.2 (by omega),by omega⟩
theorem FallE.two {w:PW} {V:List Int} (ok:OkS w V) {v:Int×Int} (hv:okV v=true) (hsent:w.sent<9800) {i j:Nat} (hi:i<w.runs.length) (hj:j<w.runs.length) (hsi:w.runs[i].st≠3) (hsj:w.runs[j].st≠3) {x a:PW} (hx:FallE w ((i:Int)+1) v x) (ha:FallE x ((j:Int)+1) v a) {L1 L2:List Int} (h1:IsWith w ((i:Int)+1) L1) (h2:IsWith w ((j:Int)+1) L2) (hji:((j:Int)+1)∉L1) (k:Nat) (hk:k<w.runs.length) (hka:k<a.runs.length) :
  a.runs[k].st=3↔w.runs[k].st=3∨Fell v i L1 ((k:Int)+1)∨Fell v j L2 ((k:Int)+1):=by
 obtain⟨okx,_,xlen,_,_,xsent,_,_⟩:=hx.oks ok hv (by omega);have hI:=hx.inv ok hv (by omega) (by omega) (Fell.sets (T:=fun _=>True) h1 fun _ _ _ _ _ _=>trivial) (.inl rfl);have hI1:∀{y:Int},y=(i:Int)+1∨y∈L1→y∈L1:=fun h=>h.elim (fun e=>e ▸ (h1.mem _).2 Reach.self) id
 have endx:∀m (hm:m<w.runs.length) (hmx:m<x.runs.length),x.runs[m].st=3↔w.runs[m].st=3∨Fell v i L1 ((m:Int)+1):=fun m hm hmx=>(hx.ends ok hv (by omega) hi hsi h1 m hm hmx).1
 have hjx:j<x.runs.length:=by omega
 have hjst:x.runs[j].st≠3:=fun h=>by
  rcases (endx j hj hjx).1 h with h|h|⟨_,h⟩
  ·exact hsj h
  ·exact hji (hI1 (.inl h))
  ·exact hji h
 obtain⟨Lx,hLx⟩:=IsWith.any okx (id:=(j:Int)+1) (by omega);have hka':k<x.runs.length:=by omega
 rw [(ha.ends okx hv (by omega) hjx hjst hLx k hka' hka).1,endx k hk hka'];have trx:∀m (hm:m<w.runs.length) (hmx:m<x.runs.length),x.runs[m].st≠3→trapAt x ((m:Int)+1)=trapAt w ((m:Int)+1):=fun m hm hmx hs=>by
  rw [trapAt_eq hmx,trapAt_eq hm];exact(hI.live m hm hmx hs).trap
 have down:((k:Int)+1)∈Lx→((k:Int)+1)∈L2:=fun h=>by
  refine(h2.mem _).2 ((hLx.mem _).1 h (Reach w ((j:Int)+1)) (fun m hm hr y hy ht=>?_) Reach.self);have hmw:m<w.runs.length:=by omega
  have hms:x.runs[m].st≠3:=fun h3=>by rw [((okx.run m hm).fin h3).2.1] at hy;cases hy
  have hl:=((hI.live m hmw hm hms).links y).1 hy;have hyr:=ok.linked m hmw hl.1;obtain⟨n,rfl⟩:∃n:Nat,y=(n:Int)+1:=⟨(y-1).toNat,by omega⟩;have hn:n<w.runs.length:=by omega
  have hnx:n<x.runs.length:=by omega
  rw [trx n hn hnx (hl.2 n hnx rfl)] at ht;exact Reach.closed m hmw hr _ hl.1 ht
 have up:normalP v=false→((k:Int)+1)∈L2→x.runs[k].st=3∨((k:Int)+1)∈Lx:=fun hn h=>by
  refine(h2.mem _).1 h (fun y=>∀m (hmx:m<x.runs.length),y=(m:Int)+1→x.runs[m].st=3∨y∈Lx) (fun m hm hS y hy ht n hnx e=>?_) (fun m _ _=>.inr ((hLx.mem _).2 Reach.self)) k hka' rfl;subst e;have hnw:n<w.runs.length:=by omega
  have hmx:m<x.runs.length:=by omega
  have hmw:w.runs[m].st≠3:=fun h3=>by rw [((ok.run m hm).fin h3).2.1] at hy;cases hy
  rcases Classical.em (x.runs[m].st=3) with h3|h3
  ·refine .inl ((endx n hnw hnx).2 (.inr (.inr ⟨hn,?_⟩)));have hm1:((m:Int)+1)∈L1:=by
    rcases (endx m hm hmx).1 h3 with h|h
    ·exact absurd h hmw
    ·exact hI1 (h.imp_right And.right)
   exact(h1.mem _).2 (Reach.closed m hm ((h1.mem _).1 hm1) _ hy ht)
  ·by_cases hn3:x.runs[n].st=3
   ·exact .inl hn3
   ·refine .inr ((hLx.mem _).2 (Reach.closed m hmx ((hLx.mem _).1 ((hS m hmx rfl).resolve_left h3)) _ ?_ (by rw [trx n hnw hnx hn3];exact ht)));refine((hI.live m hm hmx h3).links _).2 ⟨hy,fun q hq e=>?_⟩;obtain rfl:n=q:=by omega
    exact hn3
 constructor
 ·rintro((h|h)|h|⟨hn,h⟩)
  ·exact .inl h
  ·exact .inr (.inl h)
  ·exact .inr (.inr (.inl h))
  ·exact .inr (.inr (.inr ⟨hn,down h⟩))
 ·rintro(h|h|h|⟨hn,h⟩)
  ·exact .inl (.inl h)
  ·exact .inl (.inr h)
  ·exact .inr (.inl h)
  ·rcases up hn h with h|h
   ·exact .inl ((endx k hk hka').1 h)
   ·exact .inr (.inr ⟨hn,h⟩)
end Go.Proofs.YtgmkmeodimmdoaaGreatDoor
