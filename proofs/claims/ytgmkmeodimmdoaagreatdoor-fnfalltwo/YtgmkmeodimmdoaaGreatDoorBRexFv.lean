import Derived.Test.YtgmkmeodimmdoaaGreatDoorBTe
namespace Go.Proofs.YtgmkmeodimmdoaaGreatDoor
open Go.RowKit
set_option maxRecDepth 100000
def Fell (v:Int×Int) (i:Nat) (L:List Int) (x:Int):Prop:=x=(i:Int)+1∨(normalP v=false∧x∈L)
theorem Fell.sets {w:PW} {v:Int×Int} {i:Nat} {L:List Int} (hL:IsWith w ((i:Int)+1) L) {T:Int→Prop} (hT:∀k (hk:k<w.runs.length),Fell v i L ((k:Int)+1)→w.runs[k].st≠3→∀x,(x∈w.runs[k].wat∨(x∈w.runs[k].links∧normalP v=false))→T x):SetsOk w v (Fell v i L) T :=
 ⟨fun k hk hR _ m hm hl ht hn=>.inr ⟨hn,(hL.mem _).2 (Reach.closed k hk (by
  rcases hR with e|⟨_,h⟩
  ·rw [e];exact Reach.self
  ·exact(hL.mem _).1 h) _ hl (by rw [trapAt_eq hm];exact ht))⟩,hT⟩
theorem FallE.ends {w:PW} {V:List Int} (ok:OkS w V) {v:Int×Int} (hv:okV v=true) (hsent:w.sent<9900) {i:Nat} (hi:i<w.runs.length) (hst:w.runs[i].st≠3) {e:PW} (h:FallE w ((i:Int)+1) v e) {L:List Int} (hL:IsWith w ((i:Int)+1) L) (m:Nat) (hm:m<w.runs.length) (he:m<e.runs.length) :
  (e.runs[m].st=3↔w.runs[m].st=3∨Fell v i L ((m:Int)+1))∧(Fell v i L ((m:Int)+1)→e.runs[m].wk=v.1∧e.runs[m].wn=v.2):=by
 have hI:=h.inv ok hv hsent (by omega) (Fell.sets (T:=fun _=>True) hL fun _ _ _ _ _ _=>trivial) (.inl rfl);have hdown:Fell v i L ((m:Int)+1)→e.runs[m].st=3:=fun hf=>by
  have hie:i<e.runs.length:=by rw [hI.len];exact hi
  rcases hf with e1|⟨hn,hx⟩
  ·obtain rfl:m=i:=by omega
   exact h.down ok hv hsent hi he
  ·refine(hL.mem _).1 hx (fun y=>∀n (hn:n<e.runs.length),y=(n:Int)+1→e.runs[n].st=3) (fun a ha hS k hk ht n hn2 e2=>?_) (fun n hn2 e2=>?_) m he rfl
   ·subst e2;have hae:a<e.runs.length:=by rw [hI.len];exact ha
    have hnw:n<w.runs.length:=by rw [←hI.len];exact hn2
    have hsa:w.runs[a].st≠3:=fun h3=>by rw [((ok.run a ha).fin h3).2.1] at hk;cases hk
    rw [trapAt_eq hnw] at ht;rcases hI.closed a ha hae hsa (hS a hae rfl) hn n hnw hn2 hk ht with h1|h1
    ·exact h1
    ·cases h1
   ·obtain rfl:n=i:=by omega
    exact h.down ok hv hsent hi hn2
 have hlive:Fell v i L ((m:Int)+1)→w.runs[m].st≠3:=fun hf=>by
  rcases hf with e1|⟨_,hx⟩
  ·obtain rfl:m=i:=by omega
   exact hst
  ·exact Reach.alive ok hi hst hm ((hL.mem _).1 hx)
 refine⟨⟨fun h3=>?_,fun h3=>?_⟩,fun hf=>(hI.new m hm he (hlive hf) (hdown hf)).1⟩
 ·by_cases hw:w.runs[m].st=3
  ·exact .inl hw
  ·exact .inr (hI.new m hm he hw h3).2
 ·rcases h3 with h3|h3
  ·rw [hI.old m hm he h3];exact h3
  ·exact hdown h3
end Go.Proofs.YtgmkmeodimmdoaaGreatDoor
