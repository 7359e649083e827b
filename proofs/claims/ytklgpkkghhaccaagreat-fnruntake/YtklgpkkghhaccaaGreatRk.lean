/-
  What the elder texts say of RunTake, in memory that is owned (over this translation). No condition but those told.
-/
import Derived.Test.YtklgpkkghhaccaaGreatRj
import Derived.Test.YtklgpkkghhaccaaGreatQm
namespace Go.Proofs.YtklgpkkghhaccaaGreat
open Go.RowKit
set_option maxRecDepth 100000
/-- one row more, that a call has made -/
theorem Own.addRow {h : Hp} {w' : World} (hi : InH h w') {l : List Atom} (ho : Own h l) {B : Nat} {e : TypeId} {sz n : Nat} {v : Value} {xs : List Value} (hv : w'.ownsRow B e sz v n xs) (hn : ∀ g, v.ownBlock = some g → h g = none) :
    ∃ h', h.le h' ∧ Own h' (.row ⟨e, sz, v, n, xs⟩ :: l) ∧ InH h' w' ∧ ∀ b, h' b = none ∨ h' b = h b ∨ v.ownBlock = some b := by
  obtain ⟨h1, ⟨hn0, h0⟩ | ⟨g, cap, cur, hg, hge, hh, hr⟩⟩ := hv
  · subst hn0
    exact ⟨h, Hp.le_refl _, ho.add ⟨h1, .inl ⟨rfl, h0⟩⟩ (fun g e => by cases e) (fun _ _ => rfl), hi, fun b => .inr (.inl rfl)⟩
  · subst hg
    have hnone : h g = none := hn g rfl
    refine ⟨h.put g (.cells cur e (0, 0)), fun b o eq => by rw [Hp.put_ne _ _ (fun e2 => by subst e2; rw [hnone] at eq; cases eq)]; exact eq, ?_, ?_, fun b => ?_⟩
    · exact ho.add ⟨h1, .inr ⟨g, cap, cur, rfl, Hp.put_same _ _ _, hr⟩⟩ (fun b e => by cases e; exact hnone) (fun b e => Hp.put_ne _ _ fun e2 => e (by subst e2; rfl))
    · intro b o eq
      by_cases e2 : b = g
      · subst e2; rw [Hp.put_same] at eq; cases eq; exact hh
      · rw [Hp.put_ne _ _ e2] at eq; exact hi b o eq
    · by_cases e2 : b = g
      · subst e2; exact .inr (.inr rfl)
      · exact .inr (.inl (Hp.put_ne _ _ e2))
theorem cellsV_flat : ∀ L : List (Int × Int), Eld.cellsV L = L.flatMap encV
  | [] => rfl
  | x :: L => by rw [List.flatMap_cons, ← cellsV_flat L]; rfl
theorem cellsI_flat : ∀ L : List Int, L.map (Value.int .i64) = L.flatMap encI
  | [] => rfl
  | x :: L => by rw [List.flatMap_cons, List.map_cons, cellsI_flat L]; rfl
/-- a run that a call has made -/
theorem Own.addRun {h : Hp} {w w' : World} (hw : InH h w) {l : List Atom} (ho : Own h l) {d : Eld.RunD} {p : Eld.RunP} (hr : Eld.OwnRun w' w.heap.size d p) (hb : Below w.heap.size w w') :
    ∃ h', h.le h' ∧ Own h' (runRows (RunD.ofE d, RunP.ofE p) ++ l) ∧ InH h' w' ∧ Fr h w h' w' := by
  have hi : InH h w' := fun b o e => by rw [hb.block b (hw.lt e)]; exact hw b o e
  have far : ∀ {e : TypeId} {sz : Nat} {v : Value} {n : Nat} {xs : List Value}, w'.ownsRow w.heap.size e sz v n xs → ∀ g, v.ownBlock = some g → w.heap.size ≤ g ∧ h g = none := fun hv g e => by
    have h1 := (World.ownsRow.lt hv g e).1
    refine ⟨h1, ?_⟩
    cases eh : h g with
    | none => rfl
    | some o => have := hw.lt eh; omega
  have o3 : w'.ownsRow w.heap.size 3 1 (d.v3 p) d.wat.length (d.wat.flatMap encI) := by rw [← cellsI_flat]; exact hr.o3
  have o2 : w'.ownsRow w.heap.size 3 1 (d.v2 p) d.links.length (d.links.flatMap encI) := by rw [← cellsI_flat]; exact hr.o2
  have o1 : w'.ownsRow w.heap.size 26 2 (d.v1 p) d.mail.length (d.mail.flatMap encV) := by rw [← cellsV_flat]; exact hr.o1
  have o0 : w'.ownsRow w.heap.size 26 2 (d.v0 p) d.slots.length (d.slots.flatMap encV) := by rw [← cellsV_flat]; exact hr.o0
  obtain ⟨ha, la, oa, ia, fa⟩ := Own.addRow hi ho o3 (fun g e => (far o3 g e).2)
  have na : ∀ g, h g = none → (d.v3 p).ownBlock ≠ some g → ha g = none := fun g e1 e2 => by
    rcases fa g with h1 | h1 | h1
    · exact h1
    · rw [h1, e1]
    · exact absurd h1 e2
  obtain ⟨hb', lb, ob, ib, fb⟩ := Own.addRow ia oa o2 (fun g e => na g (far o2 g e).2 (hr.x23 g e))
  have nb : ∀ g, ha g = none → (d.v2 p).ownBlock ≠ some g → hb' g = none := fun g e1 e2 => by
    rcases fb g with h1 | h1 | h1
    · exact h1
    · rw [h1, e1]
    · exact absurd h1 e2
  obtain ⟨hc, lc, oc, ic, fc⟩ := Own.addRow ib ob o1 (fun g e => nb g (na g (far o1 g e).2 (hr.x13 g e)) (hr.x12 g e))
  have nc : ∀ g, hb' g = none → (d.v1 p).ownBlock ≠ some g → hc g = none := fun g e1 e2 => by
    rcases fc g with h1 | h1 | h1
    · exact h1
    · rw [h1, e1]
    · exact absurd h1 e2
  obtain ⟨hd, ld, od, id_, fd⟩ := Own.addRow ic oc o0 (fun g e => nc g (nb g (na g (far o0 g e).2 (hr.x03 g e)) (hr.x02 g e)) (hr.x01 g e))
  have nd : ∀ g, hc g = none → (d.v0 p).ownBlock ≠ some g → hd g = none := fun g e1 e2 => by
    rcases fd g with h1 | h1 | h1
    · exact h1
    · rw [h1, e1]
    · exact absurd h1 e2
  refine ⟨hd, Hp.le_trans la (Hp.le_trans lb (Hp.le_trans lc ld)), od, id_, hb.os, hb.tape, hb.output, hb.size, fun b hlt e => ⟨hb.block b hlt, ?_⟩⟩
  exact nd b (nc b (nb b (na b e (fun e2 => by have := (far o3 b e2).1; omega)) (fun e2 => by have := (far o2 b e2).1; omega)) (fun e2 => by have := (far o1 b e2).1; omega)) (fun e2 => by have := (far o0 b e2).1; omega)
/-- the run that is left, and the value -/
def takeRD (d : RunD) (k : Int) : RunD := RunD.ofE (Eld.takeD d.toE k)
theorem iRunTake_con (d : RunD) (p : RunP) (k : Int) (hs : d.Sh) (h : Hp) (o : RunIn h d p) (l : List Atom) (ho : Own h l) :
    Con Tryz.prog 8 #[d.val p, .int .i64 k] h fun r h' => ∃ q, r = .tuple #[(takeRD d k).val q, .agg #[.int .i64 (Eld.takeV d.toE k).1, .int .i64 (Eld.takeV d.toE k).2], .bool (Eld.takeB d.toE k)] ∧ h.le h' ∧ Own h' (runRows (takeRD d k, q) ++ l) := by
  refine ⟨Tryz.call8 _, fun w hw => (Eld.implRunTake_any w.heap.size d.toE p.toE k w (Nat.le_refl _) hs.toE (row_cap o.r2) (row_cap o.r3) (o.mem hw)).mono fun e w' ⟨q, he, hr, hb⟩ => ?_⟩
  obtain ⟨h', hle, hown, hi, hf⟩ := Own.addRun hw ho hr hb
  exact ⟨_, h', he, ⟨RunP.ofE q, rfl, hle, hown⟩, hi, hf⟩
end Go.Proofs.YtklgpkkghhaccaaGreat
