/-
  What impl's readParts answers over this translation, by which parts there are: the step as the words tell it, and whether they are just those; nothing that was there turns.
-/
import Derived.Test.YtekmjgkjpdhedaaGreatDoorOpReadB
namespace Go.Proofs.YtekmjgkjpdhedaaGreatDoor
open Go.ChangeShapes Go.WideShapes Go.ChangeAt Go.RowKit Go.Joins
set_option maxRecDepth 20000 in
set_option maxHeartbeats 8000000 in
theorem readParts_1100 {wd : ByteArray} {p0 t0 p1 t1 p2 t2 p3 t3 u : Value} {m0 m1 : Nat} {k n0 n1 : Int} {x0 x1 : List UInt8} {q0 q1 : Bool}
    (o0 : p0.oneCell' = true) (g0 : t0.oneCell' = true) (o1 : p1.oneCell' = true) (g1 : t1.oneCell' = true) (o2 : p2.oneCell' = true) (g2 : t2.oneCell' = true) (o3 : p3.oneCell' = true) (g3 : t3.oneCell' = true) (B L : Nat) (ao : Option Addr) (hao : 0 < L → ao = some ⟨B, 1, none⟩)
    (e0 : ∀ args w, (callFunc m0 args).run Tryz.prog w = .ok (.enter m0 args) w) (k0 : ∀ w, Tab w → Errs w → Calls Tryz.prog m0 #[.agg #[.int .i64 k, .int .i64 0, .int .i64 0, .int .i64 0, .int .i64 0, .int .i64 0], .string ⟨x0.toArray⟩] w fun e w' => e = .returned (.tuple #[.agg #[.int .i64 k, .int .i64 n0, .int .i64 0, .int .i64 0, .int .i64 0, .int .i64 0], .bool q0]) ∧ Below w.heap.size w w')
    (e1 : ∀ args w, (callFunc m1 args).run Tryz.prog w = .ok (.enter m1 args) w) (k1 : ∀ w, Tab w → Errs w → Calls Tryz.prog m1 #[.agg #[.int .i64 k, .int .i64 n0, .int .i64 0, .int .i64 0, .int .i64 0, .int .i64 0], .string ⟨x1.toArray⟩] w fun e w' => e = .returned (.tuple #[.agg #[.int .i64 k, .int .i64 n0, .int .i64 n1, .int .i64 0, .int .i64 0, .int .i64 0], .bool q1]) ∧ Below w.heap.size w w')
    (w : World) (hT : Tab w) (hE : Errs w) (hB : B < w.heap.size) (y0 : 0 < L → w.cell? ⟨B, 1, none⟩ = some (.string ⟨x0.toArray⟩)) (y1 : 1 < L → w.cell? ⟨B, 2, none⟩ = some (.string ⟨x1.toArray⟩)) :
    Calls Tryz.prog 97 #[.agg #[.string wd, p0, t0, .func (.func m0) #[] #[], p1, t1, .func (.func m1) #[] #[], p2, t2, .nilFunc, p3, t3, .nilFunc, u], .agg #[.int .i64 k, .int .i64 0, .int .i64 0, .int .i64 0, .int .i64 0, .int .i64 0], .slice ao L L] w fun e w' => (∃ o, e = .returned (.tuple #[.agg o, .bool (decide (L = 2) && q0 && q1)]) ∧ ((decide (L = 2) && q0 && q1) = true → o = #[.int .i64 k, .int .i64 n0, .int .i64 n1, .int .i64 0, .int .i64 0, .int .i64 0]) ∧ ∃ c0 c1 c2 c3 c4 c5 : Int, o = #[.int .i64 c0, .int .i64 c1, .int .i64 c2, .int .i64 c3, .int .i64 c4, .int .i64 c5]) ∧ Below w.heap.size w w' := by
  have i0 : ∀ w, (Instr.index 76 (.agg #[p0, t0, .func (.func m0) #[] #[], p1, t1, .func (.func m1) #[] #[], p2, t2, .nilFunc, p3, t3, .nilFunc]) (.int .i64 0)).run Tryz.prog w = .ok (.agg #[p0, t0, .func (.func m0) #[] #[]]) w := fun _ => by kernel_rfl
  have i1 : ∀ w, (Instr.index 76 (.agg #[p0, t0, .func (.func m0) #[] #[], p1, t1, .func (.func m1) #[] #[], p2, t2, .nilFunc, p3, t3, .nilFunc]) (.int .i64 1)).run Tryz.prog w = .ok (.agg #[p1, t1, .func (.func m1) #[] #[]]) w := fun _ => by kernel_rfl
  have i2 : ∀ w, (Instr.index 76 (.agg #[p0, t0, .func (.func m0) #[] #[], p1, t1, .func (.func m1) #[] #[], p2, t2, .nilFunc, p3, t3, .nilFunc]) (.int .i64 2)).run Tryz.prog w = .ok (.agg #[p2, t2, .nilFunc]) w := fun _ => by kernel_rfl
  have i3 : ∀ w, (Instr.index 76 (.agg #[p0, t0, .func (.func m0) #[] #[], p1, t1, .func (.func m1) #[] #[], p2, t2, .nilFunc, p3, t3, .nilFunc]) (.int .i64 3)).run Tryz.prog w = .ok (.agg #[p3, t3, .nilFunc]) w := fun _ => by kernel_rfl
  have nq0 : ∀ w, (binOp .eql 73 (.func (.func m0) #[] #[]) .nilFunc).run Tryz.prog w = .ok (.bool false) w := fun _ => by kernel_rfl
  have nq1 : ∀ w, (binOp .eql 73 (.func (.func m1) #[] #[]) .nilFunc).run Tryz.prog w = .ok (.bool false) w := fun _ => by kernel_rfl
  have nq : ∀ w, (binOp .eql 73 .nilFunc .nilFunc).run Tryz.prog w = .ok (.bool true) w := fun _ => by kernel_rfl
  go_enter Tryz.func97, Tryz.ntmps97
  go_wp2_with fail
  obtain ⟨w1, hw1⟩ : ∃ x, x = ((w.alloc (.cells #[.string wd, p0, t0, .func (.func m0) #[] #[], p1, t1, .func (.func m1) #[] #[], p2, t2, .nilFunc, p3, t3, .nilFunc, u] 79)).alloc (.cells #[.int .i64 k, .int .i64 0, .int .i64 0, .int .i64 0, .int .i64 0, .int .i64 0] 43)).alloc (.cells #[.int .i64 0, .int .i64 0, .int .i64 0, .int .i64 0, .int .i64 0, .int .i64 0] 43) := ⟨_, rfl⟩
  rw [← hw1]
  have c0 : w1.cell? ⟨w.heap.size + 1, 0, none⟩ = some (.int .i64 k) := by rw [hw1]; simp [go_sem]
  have c1 : w1.cell? ⟨w.heap.size + 1, 1, none⟩ = some (.int .i64 0) := by rw [hw1]; simp [go_sem]
  have c2 : w1.cell? ⟨w.heap.size + 1, 2, none⟩ = some (.int .i64 0) := by rw [hw1]; simp [go_sem]
  have c3 : w1.cell? ⟨w.heap.size + 1, 3, none⟩ = some (.int .i64 0) := by rw [hw1]; simp [go_sem]
  have c4 : w1.cell? ⟨w.heap.size + 1, 4, none⟩ = some (.int .i64 0) := by rw [hw1]; simp [go_sem]
  have c5 : w1.cell? ⟨w.heap.size + 1, 5, none⟩ = some (.int .i64 0) := by rw [hw1]; simp [go_sem]
  have f0 : w1.frozen? ⟨w.heap.size + 1, 0, none⟩ = false := by rw [hw1]; simp [go_sem]
  have d0 : w1.cell? ⟨w.heap.size + 1 + 1, 0, none⟩ = some (.int .i64 0) := by rw [hw1]; simp [go_sem]
  have h0 : w1.frozen? ⟨w.heap.size + 1 + 1, 0, none⟩ = false := by rw [hw1]; simp [go_sem]
  have f1 : w1.frozen? ⟨w.heap.size + 1, 1, none⟩ = false := by rw [hw1]; simp [go_sem]
  have d1 : w1.cell? ⟨w.heap.size + 1 + 1, 1, none⟩ = some (.int .i64 0) := by rw [hw1]; simp [go_sem]
  have h1 : w1.frozen? ⟨w.heap.size + 1 + 1, 1, none⟩ = false := by rw [hw1]; simp [go_sem]
  have f2 : w1.frozen? ⟨w.heap.size + 1, 2, none⟩ = false := by rw [hw1]; simp [go_sem]
  have d2 : w1.cell? ⟨w.heap.size + 1 + 1, 2, none⟩ = some (.int .i64 0) := by rw [hw1]; simp [go_sem]
  have h2 : w1.frozen? ⟨w.heap.size + 1 + 1, 2, none⟩ = false := by rw [hw1]; simp [go_sem]
  have f3 : w1.frozen? ⟨w.heap.size + 1, 3, none⟩ = false := by rw [hw1]; simp [go_sem]
  have d3 : w1.cell? ⟨w.heap.size + 1 + 1, 3, none⟩ = some (.int .i64 0) := by rw [hw1]; simp [go_sem]
  have h3 : w1.frozen? ⟨w.heap.size + 1 + 1, 3, none⟩ = false := by rw [hw1]; simp [go_sem]
  have f4 : w1.frozen? ⟨w.heap.size + 1, 4, none⟩ = false := by rw [hw1]; simp [go_sem]
  have d4 : w1.cell? ⟨w.heap.size + 1 + 1, 4, none⟩ = some (.int .i64 0) := by rw [hw1]; simp [go_sem]
  have h4 : w1.frozen? ⟨w.heap.size + 1 + 1, 4, none⟩ = false := by rw [hw1]; simp [go_sem]
  have f5 : w1.frozen? ⟨w.heap.size + 1, 5, none⟩ = false := by rw [hw1]; simp [go_sem]
  have d5 : w1.cell? ⟨w.heap.size + 1 + 1, 5, none⟩ = some (.int .i64 0) := by rw [hw1]; simp [go_sem]
  have h5 : w1.frozen? ⟨w.heap.size + 1 + 1, 5, none⟩ = false := by rw [hw1]; simp [go_sem]
  have l_w1 : w.heap.size + 1 + 1 < w1.heap.size := by rw [hw1]; simp
  have hb_w1 : Below w.heap.size w w1 := by rw [hw1]; exact (((Below.refl _ _).alloc (Nat.le_refl _) _).alloc (by simp) _).alloc (by simp; omega) _
  have hao_0 := hao
  clear hw1
  refine wp_loop_rounds 5 ?_
  rw [rounds_succ]
  rcases Decidable.em (L = 0) with hz | hz
  · have e9 : ((L : Int) == 0) = true := by simp; omega
    go_wp2_with (refine wpList_store_row rfl 75 (.tmp 9) (.tmp 16) rfl _ _ rfl rfl 75 _ (heap_new (by simp)) (by kernel_rfl) (by kernel_rfl) (by simp [oc_func, o0, g0]) ?_; rw [setRow_new (by simp)])
    refine bodyPost_ret (v := .tuple #[.agg #[.int .i64 0, .int .i64 0, .int .i64 0, .int .i64 0, .int .i64 0, .int .i64 0], .bool false]) (by simp [results, Tryz.results97, go_sem, *]) rfl ⟨⟨#[.int .i64 0, .int .i64 0, .int .i64 0, .int .i64 0, .int .i64 0, .int .i64 0], by simp; omega, fun h => (by simp at h; omega), _, _, _, _, _, _, rfl⟩, ((((((hb_w1.setCell (by dsimp only; omega) _).setCell (by dsimp only; omega) _).setCell (by dsimp only; omega) _).setCell (by dsimp only; omega) _).setCell (by dsimp only; omega) _).setCell (by dsimp only; omega) _).alloc (by simp [World.setCell]; omega) _⟩
  have zL0 : ((L : Int) == 0) = false := by simp; omega
  have zM0 : (0 : Int) < (L : Int) := by omega
  have zN0 : 0 < L := by omega
  obtain rfl := hao_0 (by omega)
  go_wp2_with (refine wpList_store_row rfl 75 (.tmp 9) (.tmp 16) rfl _ _ rfl rfl 75 _ (heap_new (by simp)) (by kernel_rfl) (by kernel_rfl) (by simp [oc_func, o0, g0]) ?_; rw [setRow_new (by simp)])
  obtain ⟨v0, hw_v0⟩ : ∃ x, x = w1.alloc (.cells #[p0, t0, .func (.func m0) #[] #[]] 75) := ⟨_, rfl⟩
  rw [← hw_v0]
  have pc : v0.cell? ⟨w1.heap.size, 2, none⟩ = some (.func (.func m0) #[] #[]) := by rw [hw_v0]; simp [go_sem]
  have hz_v0 : w1.heap.size < v0.heap.size := by rw [hw_v0]; simp
  have hx_v0 : Below w1.heap.size w1 v0 := by rw [hw_v0]; exact (Below.refl _ _).alloc (Nat.le_refl _) _
  obtain ⟨hc_v0, hf_v0⟩ := bcell hx_v0
  replace c0 : v0.cell? ⟨w.heap.size + 1, 0, none⟩ = some (.int .i64 k) := by rw [hc_v0 _ _ (by omega)]; exact c0
  replace f0 : v0.frozen? ⟨w.heap.size + 1, 0, none⟩ = false := by rw [hf_v0 _ _ (by omega)]; exact f0
  replace d0 : v0.cell? ⟨w.heap.size + 1 + 1, 0, none⟩ = some (.int .i64 0) := by rw [hc_v0 _ _ (by omega)]; exact d0
  replace h0 : v0.frozen? ⟨w.heap.size + 1 + 1, 0, none⟩ = false := by rw [hf_v0 _ _ (by omega)]; exact h0
  replace c1 : v0.cell? ⟨w.heap.size + 1, 1, none⟩ = some (.int .i64 0) := by rw [hc_v0 _ _ (by omega)]; exact c1
  replace f1 : v0.frozen? ⟨w.heap.size + 1, 1, none⟩ = false := by rw [hf_v0 _ _ (by omega)]; exact f1
  replace d1 : v0.cell? ⟨w.heap.size + 1 + 1, 1, none⟩ = some (.int .i64 0) := by rw [hc_v0 _ _ (by omega)]; exact d1
  replace h1 : v0.frozen? ⟨w.heap.size + 1 + 1, 1, none⟩ = false := by rw [hf_v0 _ _ (by omega)]; exact h1
  replace c2 : v0.cell? ⟨w.heap.size + 1, 2, none⟩ = some (.int .i64 0) := by rw [hc_v0 _ _ (by omega)]; exact c2
  replace f2 : v0.frozen? ⟨w.heap.size + 1, 2, none⟩ = false := by rw [hf_v0 _ _ (by omega)]; exact f2
  replace d2 : v0.cell? ⟨w.heap.size + 1 + 1, 2, none⟩ = some (.int .i64 0) := by rw [hc_v0 _ _ (by omega)]; exact d2
  replace h2 : v0.frozen? ⟨w.heap.size + 1 + 1, 2, none⟩ = false := by rw [hf_v0 _ _ (by omega)]; exact h2
  replace c3 : v0.cell? ⟨w.heap.size + 1, 3, none⟩ = some (.int .i64 0) := by rw [hc_v0 _ _ (by omega)]; exact c3
  replace f3 : v0.frozen? ⟨w.heap.size + 1, 3, none⟩ = false := by rw [hf_v0 _ _ (by omega)]; exact f3
  replace d3 : v0.cell? ⟨w.heap.size + 1 + 1, 3, none⟩ = some (.int .i64 0) := by rw [hc_v0 _ _ (by omega)]; exact d3
  replace h3 : v0.frozen? ⟨w.heap.size + 1 + 1, 3, none⟩ = false := by rw [hf_v0 _ _ (by omega)]; exact h3
  replace c4 : v0.cell? ⟨w.heap.size + 1, 4, none⟩ = some (.int .i64 0) := by rw [hc_v0 _ _ (by omega)]; exact c4
  replace f4 : v0.frozen? ⟨w.heap.size + 1, 4, none⟩ = false := by rw [hf_v0 _ _ (by omega)]; exact f4
  replace d4 : v0.cell? ⟨w.heap.size + 1 + 1, 4, none⟩ = some (.int .i64 0) := by rw [hc_v0 _ _ (by omega)]; exact d4
  replace h4 : v0.frozen? ⟨w.heap.size + 1 + 1, 4, none⟩ = false := by rw [hf_v0 _ _ (by omega)]; exact h4
  replace c5 : v0.cell? ⟨w.heap.size + 1, 5, none⟩ = some (.int .i64 0) := by rw [hc_v0 _ _ (by omega)]; exact c5
  replace f5 : v0.frozen? ⟨w.heap.size + 1, 5, none⟩ = false := by rw [hf_v0 _ _ (by omega)]; exact f5
  replace d5 : v0.cell? ⟨w.heap.size + 1 + 1, 5, none⟩ = some (.int .i64 0) := by rw [hc_v0 _ _ (by omega)]; exact d5
  replace h5 : v0.frozen? ⟨w.heap.size + 1 + 1, 5, none⟩ = false := by rw [hf_v0 _ _ (by omega)]; exact h5
  have hb_v0 : Below w.heap.size w v0 := hb_w1.trans (hx_v0.mono (by omega))
  have z0 : v0.cell? ⟨B, 1, none⟩ = some (.string ⟨x0.toArray⟩) := (hb_v0.cell (p := ⟨B, 1, none⟩) hB).trans (y0 (by omega))
  have hT_v0 := hT.below hb_v0
  have hE_v0 := hE.below hb_v0
  clear hw_v0 hc_v0 hf_v0 hx_v0
  have lB2 : B < v0.heap.size := by have := hb_v0.size; omega
  have lo2 : w.heap.size + 1 < v0.heap.size := by omega
  have lr2 : w.heap.size + 1 + 1 < v0.heap.size := by omega
  have hS0 : Sev w1.heap.size (w.heap.size + 1) B 1 m0 (k) (0) (0) (0) (0) (0) x0 v0 v0 := ⟨pc, c0, c1, c2, c3, c4, c5, z0, Below.refl _ _⟩
  have TE : ∀ X, Sev w1.heap.size (w.heap.size + 1) B 1 m0 (k) (0) (0) (0) (0) (0) x0 v0 X → Tab X ∧ Errs X := fun X hX => ⟨hT_v0.below (Sev.below hX), hE_v0.below (Sev.below hX)⟩
  go_cut [10, 11, 14] from 14 to 40 (fun s10 s11 s14 wc => s14 = .int .i64 0 ∧ (∃ nb : Nat, s10 = .pointer (some ⟨nb, 0, none⟩) ∧ s11 = .bool q0 ∧ wc.cell? ⟨nb, 0, none⟩ = some (.int .i64 k) ∧ wc.cell? ⟨nb, 1, none⟩ = some (.int .i64 n0) ∧ wc.cell? ⟨nb, 2, none⟩ = some (.int .i64 0) ∧ wc.cell? ⟨nb, 3, none⟩ = some (.int .i64 0) ∧ wc.cell? ⟨nb, 4, none⟩ = some (.int .i64 0) ∧ wc.cell? ⟨nb, 5, none⟩ = some (.int .i64 0) ∧ v0.heap.size ≤ nb ∧ nb < wc.heap.size) ∧ Below v0.heap.size v0 wc)
  case first =>
    go_region_held3 (fun w' => w'.cell? ⟨w1.heap.size, 2, none⟩ = some (.func (.func m0) #[] #[]) ∧ w'.cell? ⟨w.heap.size + 1, 0, none⟩ = some (.int .i64 k) ∧ w'.cell? ⟨w.heap.size + 1, 1, none⟩ = some (.int .i64 0) ∧ w'.cell? ⟨w.heap.size + 1, 2, none⟩ = some (.int .i64 0) ∧ w'.cell? ⟨w.heap.size + 1, 3, none⟩ = some (.int .i64 0) ∧ w'.cell? ⟨w.heap.size + 1, 4, none⟩ = some (.int .i64 0) ∧ w'.cell? ⟨w.heap.size + 1, 5, none⟩ = some (.int .i64 0) ∧ w'.cell? ⟨B, 1, none⟩ = some (.string ⟨x0.toArray⟩) ∧ Below v0.heap.size v0 w')
      (first | (with_reducible refine sev_six hz_v0 lo2 lB2 ?_ (Nat.le_refl _) _ _ _ _ _ _; with_reducible assumption) | with_reducible exact sev_drew hz_v0 lo2 lB2 (by with_reducible assumption) | with_reducible exact sev_call hz_v0 lo2 lB2 (by with_reducible assumption) hbx | with_reducible exact sev_alloc hz_v0 lo2 lB2 (by with_reducible assumption) _ | with_reducible exact sev_drew hz_v0 lo2 lB2 (sev_alloc hz_v0 lo2 lB2 hS0 _) | with_reducible exact sev_realloc hz_v0 lo2 lB2 (by with_reducible assumption) (sz_of hbx) _)
      (first
        | (go_at_fn m0; refine (k0 _ (TE _ (by with_reducible assumption)).1 (TE _ (by with_reducible assumption)).2).mono ?_; rintro e wx ⟨rfl, hbx⟩; first | (with_reducible refine (fun hnx => ?_) (nx_of hbx); obtain ⟨a0, a1, a2, a3, a4, a5, b0, b1, b2, b3, b4, b5⟩ := hnx) | (with_reducible refine (fun hnx => ?_) (nx_of2 hbx); obtain ⟨a0, a1, a2, a3, a4, a5, b0, b1, b2, b3, b4, b5⟩ := hnx) | skip))
    all_goals go_wp2_with fail
    all_goals go_meet
    all_goals refine ⟨rfl, ⟨_, rfl, rfl, ?_, ?_, ?_, ?_, ?_, ?_, ?_, ?_⟩, ?_⟩
    all_goals first | (simp [go_sem]; done) | (simp [go_sem, a0, a1, a2, a3, a4, a5]; done) | exact Sev.below (by with_reducible assumption) | (have h9 := hbx.size; simp [World.setCell] at h9 ⊢; omega)
  case rest =>
    obtain ⟨rfl, ⟨nb, rfl, rfl, n0', n1', n2', n3', n4', n5', lb1, lb2⟩, hbc⟩ := hcut
    obtain ⟨hcc, hfc⟩ := bcell hbc
    replace c0 : wc.cell? ⟨w.heap.size + 1, 0, none⟩ = some (.int .i64 k) := by rw [hcc _ _ (by omega)]; exact c0
    replace f0 : wc.frozen? ⟨w.heap.size + 1, 0, none⟩ = false := by rw [hfc _ _ (by omega)]; exact f0
    replace d0 : wc.cell? ⟨w.heap.size + 1 + 1, 0, none⟩ = some (.int .i64 0) := by rw [hcc _ _ (by omega)]; exact d0
    replace h0 : wc.frozen? ⟨w.heap.size + 1 + 1, 0, none⟩ = false := by rw [hfc _ _ (by omega)]; exact h0
    replace c1 : wc.cell? ⟨w.heap.size + 1, 1, none⟩ = some (.int .i64 0) := by rw [hcc _ _ (by omega)]; exact c1
    replace f1 : wc.frozen? ⟨w.heap.size + 1, 1, none⟩ = false := by rw [hfc _ _ (by omega)]; exact f1
    replace d1 : wc.cell? ⟨w.heap.size + 1 + 1, 1, none⟩ = some (.int .i64 0) := by rw [hcc _ _ (by omega)]; exact d1
    replace h1 : wc.frozen? ⟨w.heap.size + 1 + 1, 1, none⟩ = false := by rw [hfc _ _ (by omega)]; exact h1
    replace c2 : wc.cell? ⟨w.heap.size + 1, 2, none⟩ = some (.int .i64 0) := by rw [hcc _ _ (by omega)]; exact c2
    replace f2 : wc.frozen? ⟨w.heap.size + 1, 2, none⟩ = false := by rw [hfc _ _ (by omega)]; exact f2
    replace d2 : wc.cell? ⟨w.heap.size + 1 + 1, 2, none⟩ = some (.int .i64 0) := by rw [hcc _ _ (by omega)]; exact d2
    replace h2 : wc.frozen? ⟨w.heap.size + 1 + 1, 2, none⟩ = false := by rw [hfc _ _ (by omega)]; exact h2
    replace c3 : wc.cell? ⟨w.heap.size + 1, 3, none⟩ = some (.int .i64 0) := by rw [hcc _ _ (by omega)]; exact c3
    replace f3 : wc.frozen? ⟨w.heap.size + 1, 3, none⟩ = false := by rw [hfc _ _ (by omega)]; exact f3
    replace d3 : wc.cell? ⟨w.heap.size + 1 + 1, 3, none⟩ = some (.int .i64 0) := by rw [hcc _ _ (by omega)]; exact d3
    replace h3 : wc.frozen? ⟨w.heap.size + 1 + 1, 3, none⟩ = false := by rw [hfc _ _ (by omega)]; exact h3
    replace c4 : wc.cell? ⟨w.heap.size + 1, 4, none⟩ = some (.int .i64 0) := by rw [hcc _ _ (by omega)]; exact c4
    replace f4 : wc.frozen? ⟨w.heap.size + 1, 4, none⟩ = false := by rw [hfc _ _ (by omega)]; exact f4
    replace d4 : wc.cell? ⟨w.heap.size + 1 + 1, 4, none⟩ = some (.int .i64 0) := by rw [hcc _ _ (by omega)]; exact d4
    replace h4 : wc.frozen? ⟨w.heap.size + 1 + 1, 4, none⟩ = false := by rw [hfc _ _ (by omega)]; exact h4
    replace c5 : wc.cell? ⟨w.heap.size + 1, 5, none⟩ = some (.int .i64 0) := by rw [hcc _ _ (by omega)]; exact c5
    replace f5 : wc.frozen? ⟨w.heap.size + 1, 5, none⟩ = false := by rw [hfc _ _ (by omega)]; exact f5
    replace d5 : wc.cell? ⟨w.heap.size + 1 + 1, 5, none⟩ = some (.int .i64 0) := by rw [hcc _ _ (by omega)]; exact d5
    replace h5 : wc.frozen? ⟨w.heap.size + 1 + 1, 5, none⟩ = false := by rw [hfc _ _ (by omega)]; exact h5
    have hb_wc : Below w.heap.size w wc := hb_v0.trans (hbc.mono (by omega))
    have hzc := hbc.size
    clear hcc hfc pc TE hS0 hT_v0 hE_v0 z0
    cases q0 with
    | false =>
      go_wp2_with fail
      refine bodyPost_ret (v := .tuple #[.agg #[.int .i64 0, .int .i64 0, .int .i64 0, .int .i64 0, .int .i64 0, .int .i64 0], .bool false]) (by simp [results, Tryz.results97, go_sem, *]) rfl ⟨⟨#[.int .i64 0, .int .i64 0, .int .i64 0, .int .i64 0, .int .i64 0, .int .i64 0], by simp, fun h => (by simp at h), _, _, _, _, _, _, rfl⟩, ((((((hb_wc.setCell (by dsimp only; omega) _).setCell (by dsimp only; omega) _).setCell (by dsimp only; omega) _).setCell (by dsimp only; omega) _).setCell (by dsimp only; omega) _).setCell (by dsimp only; omega) _)⟩
    | true =>
      go_wp2_with fail
      rename_i hKK
      have hK := fun (ao' : Option Addr) (L1' : Nat) (s37 s38 s39 : Value) (W0 : World) (hL_1 : L1' + 1 = L) (hao_1 : 0 < L1' → ao' = some ⟨B, 2, none⟩) (hcs : W0.cell? ⟨w.heap.size + 1, 0, none⟩ = some (.int .i64 k) ∧ W0.cell? ⟨w.heap.size + 1, 1, none⟩ = some (.int .i64 n0) ∧ W0.cell? ⟨w.heap.size + 1, 2, none⟩ = some (.int .i64 0) ∧ W0.cell? ⟨w.heap.size + 1, 3, none⟩ = some (.int .i64 0) ∧ W0.cell? ⟨w.heap.size + 1, 4, none⟩ = some (.int .i64 0) ∧ W0.cell? ⟨w.heap.size + 1, 5, none⟩ = some (.int .i64 0)) (hfs : W0.frozen? ⟨w.heap.size + 1, 0, none⟩ = false ∧ W0.cell? ⟨w.heap.size + 1 + 1, 0, none⟩ = some (.int .i64 0) ∧ W0.frozen? ⟨w.heap.size + 1 + 1, 0, none⟩ = false ∧ W0.frozen? ⟨w.heap.size + 1, 1, none⟩ = false ∧ W0.cell? ⟨w.heap.size + 1 + 1, 1, none⟩ = some (.int .i64 0) ∧ W0.frozen? ⟨w.heap.size + 1 + 1, 1, none⟩ = false ∧ W0.frozen? ⟨w.heap.size + 1, 2, none⟩ = false ∧ W0.cell? ⟨w.heap.size + 1 + 1, 2, none⟩ = some (.int .i64 0) ∧ W0.frozen? ⟨w.heap.size + 1 + 1, 2, none⟩ = false ∧ W0.frozen? ⟨w.heap.size + 1, 3, none⟩ = false ∧ W0.cell? ⟨w.heap.size + 1 + 1, 3, none⟩ = some (.int .i64 0) ∧ W0.frozen? ⟨w.heap.size + 1 + 1, 3, none⟩ = false ∧ W0.frozen? ⟨w.heap.size + 1, 4, none⟩ = false ∧ W0.cell? ⟨w.heap.size + 1 + 1, 4, none⟩ = some (.int .i64 0) ∧ W0.frozen? ⟨w.heap.size + 1 + 1, 4, none⟩ = false ∧ W0.frozen? ⟨w.heap.size + 1, 5, none⟩ = false ∧ W0.cell? ⟨w.heap.size + 1 + 1, 5, none⟩ = some (.int .i64 0) ∧ W0.frozen? ⟨w.heap.size + 1 + 1, 5, none⟩ = false) (hb_W0 : Below w.heap.size w W0) (l_W0 : w.heap.size + 1 + 1 < W0.heap.size) =>
        hKK { tmps := #[.agg #[.string wd, p0, t0, .func (.func m0) #[] #[], p1, t1, .func (.func m1) #[] #[], p2, t2, .nilFunc, p3, t3, .nilFunc, u], .agg #[.int .i64 k, .int .i64 0, .int .i64 0, .int .i64 0, .int .i64 0, .int .i64 0], .slice ao' L1' L1', .pointer (some ⟨w.heap.size, 0, none⟩), .pointer (some ⟨w.heap.size + 1, 0, none⟩), undef, .pointer (some ⟨w.heap.size + 1 + 1, 0, none⟩), .bool false, undef, .pointer (some ⟨w1.heap.size, 0, none⟩), .pointer (some ⟨nb, 0, none⟩), .bool true, .pointer (some ⟨w.heap.size, 1, none⟩), .agg #[p0, t0, .func (.func m0) #[] #[], p1, t1, .func (.func m1) #[] #[], p2, t2, .nilFunc, p3, t3, .nilFunc], .int .i64 0, u15, u16, u17, u18, u19, u20, u21, u22, u23, u24, u25, u26, u27, u28, u29, u30, u31, u32, u33, .bool true, .bool false, u36, s37, s38, s39, u40, undef, undef, undef, undef], defers := [] } W0 (by
        clear hb_wc hbc hzc lb1 lb2 n0' n1' n2' n3' n4' n5' c0 f0 d0 h0 c1 f1 d1 h1 c2 f2 d2 h2 c3 f3 d3 h3 c4 f4 d4 h4 c5 f5 d5 h5
        obtain ⟨c0, c1, c2, c3, c4, c5⟩ := hcs
        obtain ⟨f0, d0, h0, f1, d1, h1, f2, d2, h2, f3, d3, h3, f4, d4, h4, f5, d5, h5⟩ := hfs
        go_wp2_with fail
        rw [rounds_succ]
        rcases Decidable.em (L1' = 0) with hz | hz
        · have e9 : ((L1' : Int) == 0) = true := by simp; omega
          go_wp2_with (refine wpList_store_row rfl 75 (.tmp 9) (.tmp 16) rfl _ _ rfl rfl 75 _ (heap_new (by simp)) (by kernel_rfl) (by kernel_rfl) (by simp [oc_func, o1, g1]) ?_; rw [setRow_new (by simp)])
          refine bodyPost_ret (v := .tuple #[.agg #[.int .i64 0, .int .i64 0, .int .i64 0, .int .i64 0, .int .i64 0, .int .i64 0], .bool false]) (by simp [results, Tryz.results97, go_sem, *]) rfl ⟨⟨#[.int .i64 0, .int .i64 0, .int .i64 0, .int .i64 0, .int .i64 0, .int .i64 0], by simp; omega, fun h => (by simp at h; omega), _, _, _, _, _, _, rfl⟩, ((((((hb_W0.setCell (by dsimp only; omega) _).setCell (by dsimp only; omega) _).setCell (by dsimp only; omega) _).setCell (by dsimp only; omega) _).setCell (by dsimp only; omega) _).setCell (by dsimp only; omega) _).alloc (by simp [World.setCell]; omega) _⟩
        have zL1 : ((L1' : Int) == 0) = false := by simp; omega
        have zM1 : (0 : Int) < (L1' : Int) := by omega
        have zN1 : 0 < L1' := by omega
        obtain rfl := hao_1 (by omega)
        go_wp2_with (refine wpList_store_row rfl 75 (.tmp 9) (.tmp 16) rfl _ _ rfl rfl 75 _ (heap_new (by simp)) (by kernel_rfl) (by kernel_rfl) (by simp [oc_func, o1, g1]) ?_; rw [setRow_new (by simp)])
        obtain ⟨v1, hw_v1⟩ : ∃ x, x = W0.alloc (.cells #[p1, t1, .func (.func m1) #[] #[]] 75) := ⟨_, rfl⟩
        rw [← hw_v1]
        have pc : v1.cell? ⟨W0.heap.size, 2, none⟩ = some (.func (.func m1) #[] #[]) := by rw [hw_v1]; simp [go_sem]
        have hz_v1 : W0.heap.size < v1.heap.size := by rw [hw_v1]; simp
        have hx_v1 : Below W0.heap.size W0 v1 := by rw [hw_v1]; exact (Below.refl _ _).alloc (Nat.le_refl _) _
        obtain ⟨hc_v1, hf_v1⟩ := bcell hx_v1
        replace c0 : v1.cell? ⟨w.heap.size + 1, 0, none⟩ = some (.int .i64 k) := by rw [hc_v1 _ _ (by omega)]; exact c0
        replace f0 : v1.frozen? ⟨w.heap.size + 1, 0, none⟩ = false := by rw [hf_v1 _ _ (by omega)]; exact f0
        replace d0 : v1.cell? ⟨w.heap.size + 1 + 1, 0, none⟩ = some (.int .i64 0) := by rw [hc_v1 _ _ (by omega)]; exact d0
        replace h0 : v1.frozen? ⟨w.heap.size + 1 + 1, 0, none⟩ = false := by rw [hf_v1 _ _ (by omega)]; exact h0
        replace c1 : v1.cell? ⟨w.heap.size + 1, 1, none⟩ = some (.int .i64 n0) := by rw [hc_v1 _ _ (by omega)]; exact c1
        replace f1 : v1.frozen? ⟨w.heap.size + 1, 1, none⟩ = false := by rw [hf_v1 _ _ (by omega)]; exact f1
        replace d1 : v1.cell? ⟨w.heap.size + 1 + 1, 1, none⟩ = some (.int .i64 0) := by rw [hc_v1 _ _ (by omega)]; exact d1
        replace h1 : v1.frozen? ⟨w.heap.size + 1 + 1, 1, none⟩ = false := by rw [hf_v1 _ _ (by omega)]; exact h1
        replace c2 : v1.cell? ⟨w.heap.size + 1, 2, none⟩ = some (.int .i64 0) := by rw [hc_v1 _ _ (by omega)]; exact c2
        replace f2 : v1.frozen? ⟨w.heap.size + 1, 2, none⟩ = false := by rw [hf_v1 _ _ (by omega)]; exact f2
        replace d2 : v1.cell? ⟨w.heap.size + 1 + 1, 2, none⟩ = some (.int .i64 0) := by rw [hc_v1 _ _ (by omega)]; exact d2
        replace h2 : v1.frozen? ⟨w.heap.size + 1 + 1, 2, none⟩ = false := by rw [hf_v1 _ _ (by omega)]; exact h2
        replace c3 : v1.cell? ⟨w.heap.size + 1, 3, none⟩ = some (.int .i64 0) := by rw [hc_v1 _ _ (by omega)]; exact c3
        replace f3 : v1.frozen? ⟨w.heap.size + 1, 3, none⟩ = false := by rw [hf_v1 _ _ (by omega)]; exact f3
        replace d3 : v1.cell? ⟨w.heap.size + 1 + 1, 3, none⟩ = some (.int .i64 0) := by rw [hc_v1 _ _ (by omega)]; exact d3
        replace h3 : v1.frozen? ⟨w.heap.size + 1 + 1, 3, none⟩ = false := by rw [hf_v1 _ _ (by omega)]; exact h3
        replace c4 : v1.cell? ⟨w.heap.size + 1, 4, none⟩ = some (.int .i64 0) := by rw [hc_v1 _ _ (by omega)]; exact c4
        replace f4 : v1.frozen? ⟨w.heap.size + 1, 4, none⟩ = false := by rw [hf_v1 _ _ (by omega)]; exact f4
        replace d4 : v1.cell? ⟨w.heap.size + 1 + 1, 4, none⟩ = some (.int .i64 0) := by rw [hc_v1 _ _ (by omega)]; exact d4
        replace h4 : v1.frozen? ⟨w.heap.size + 1 + 1, 4, none⟩ = false := by rw [hf_v1 _ _ (by omega)]; exact h4
        replace c5 : v1.cell? ⟨w.heap.size + 1, 5, none⟩ = some (.int .i64 0) := by rw [hc_v1 _ _ (by omega)]; exact c5
        replace f5 : v1.frozen? ⟨w.heap.size + 1, 5, none⟩ = false := by rw [hf_v1 _ _ (by omega)]; exact f5
        replace d5 : v1.cell? ⟨w.heap.size + 1 + 1, 5, none⟩ = some (.int .i64 0) := by rw [hc_v1 _ _ (by omega)]; exact d5
        replace h5 : v1.frozen? ⟨w.heap.size + 1 + 1, 5, none⟩ = false := by rw [hf_v1 _ _ (by omega)]; exact h5
        have hb_v1 : Below w.heap.size w v1 := hb_W0.trans (hx_v1.mono (by omega))
        have z1 : v1.cell? ⟨B, 2, none⟩ = some (.string ⟨x1.toArray⟩) := (hb_v1.cell (p := ⟨B, 2, none⟩) hB).trans (y1 (by omega))
        have hT_v1 := hT.below hb_v1
        have hE_v1 := hE.below hb_v1
        clear hw_v1 hc_v1 hf_v1 hx_v1
        have lB2 : B < v1.heap.size := by have := hb_v1.size; omega
        have lo2 : w.heap.size + 1 < v1.heap.size := by omega
        have lr2 : w.heap.size + 1 + 1 < v1.heap.size := by omega
        have hS0 : Sev W0.heap.size (w.heap.size + 1) B 2 m1 (k) (n0) (0) (0) (0) (0) x1 v1 v1 := ⟨pc, c0, c1, c2, c3, c4, c5, z1, Below.refl _ _⟩
        have TE : ∀ X, Sev W0.heap.size (w.heap.size + 1) B 2 m1 (k) (n0) (0) (0) (0) (0) x1 v1 X → Tab X ∧ Errs X := fun X hX => ⟨hT_v1.below (Sev.below hX), hE_v1.below (Sev.below hX)⟩
        go_cut [10, 11, 14] from 14 to 40 (fun s10 s11 s14 wc => s14 = .int .i64 1 ∧ (∃ nb : Nat, s10 = .pointer (some ⟨nb, 0, none⟩) ∧ s11 = .bool q1 ∧ wc.cell? ⟨nb, 0, none⟩ = some (.int .i64 k) ∧ wc.cell? ⟨nb, 1, none⟩ = some (.int .i64 n0) ∧ wc.cell? ⟨nb, 2, none⟩ = some (.int .i64 n1) ∧ wc.cell? ⟨nb, 3, none⟩ = some (.int .i64 0) ∧ wc.cell? ⟨nb, 4, none⟩ = some (.int .i64 0) ∧ wc.cell? ⟨nb, 5, none⟩ = some (.int .i64 0) ∧ v1.heap.size ≤ nb ∧ nb < wc.heap.size) ∧ Below v1.heap.size v1 wc)
        case first =>
          go_region_held3 (fun w' => w'.cell? ⟨W0.heap.size, 2, none⟩ = some (.func (.func m1) #[] #[]) ∧ w'.cell? ⟨w.heap.size + 1, 0, none⟩ = some (.int .i64 k) ∧ w'.cell? ⟨w.heap.size + 1, 1, none⟩ = some (.int .i64 n0) ∧ w'.cell? ⟨w.heap.size + 1, 2, none⟩ = some (.int .i64 0) ∧ w'.cell? ⟨w.heap.size + 1, 3, none⟩ = some (.int .i64 0) ∧ w'.cell? ⟨w.heap.size + 1, 4, none⟩ = some (.int .i64 0) ∧ w'.cell? ⟨w.heap.size + 1, 5, none⟩ = some (.int .i64 0) ∧ w'.cell? ⟨B, 2, none⟩ = some (.string ⟨x1.toArray⟩) ∧ Below v1.heap.size v1 w')
            (first | (with_reducible refine sev_six hz_v1 lo2 lB2 ?_ (Nat.le_refl _) _ _ _ _ _ _; with_reducible assumption) | with_reducible exact sev_drew hz_v1 lo2 lB2 (by with_reducible assumption) | with_reducible exact sev_call hz_v1 lo2 lB2 (by with_reducible assumption) hbx | with_reducible exact sev_alloc hz_v1 lo2 lB2 (by with_reducible assumption) _ | with_reducible exact sev_drew hz_v1 lo2 lB2 (sev_alloc hz_v1 lo2 lB2 hS0 _) | with_reducible exact sev_realloc hz_v1 lo2 lB2 (by with_reducible assumption) (sz_of hbx) _)
            (first
              | (go_at_fn m1; refine (k1 _ (TE _ (by with_reducible assumption)).1 (TE _ (by with_reducible assumption)).2).mono ?_; rintro e wx ⟨rfl, hbx⟩; first | (with_reducible refine (fun hnx => ?_) (nx_of hbx); obtain ⟨a0, a1, a2, a3, a4, a5, b0, b1, b2, b3, b4, b5⟩ := hnx) | (with_reducible refine (fun hnx => ?_) (nx_of2 hbx); obtain ⟨a0, a1, a2, a3, a4, a5, b0, b1, b2, b3, b4, b5⟩ := hnx) | skip))
          all_goals go_wp2_with fail
          all_goals go_meet
          all_goals refine ⟨rfl, ⟨_, rfl, rfl, ?_, ?_, ?_, ?_, ?_, ?_, ?_, ?_⟩, ?_⟩
          all_goals first | (simp [go_sem]; done) | (simp [go_sem, a0, a1, a2, a3, a4, a5]; done) | exact Sev.below (by with_reducible assumption) | (have h9 := hbx.size; simp [World.setCell] at h9 ⊢; omega)
        case rest =>
          obtain ⟨rfl, ⟨nb, rfl, rfl, n0', n1', n2', n3', n4', n5', lb1, lb2⟩, hbc⟩ := hcut
          obtain ⟨hcc, hfc⟩ := bcell hbc
          replace c0 : wc.cell? ⟨w.heap.size + 1, 0, none⟩ = some (.int .i64 k) := by rw [hcc _ _ (by omega)]; exact c0
          replace f0 : wc.frozen? ⟨w.heap.size + 1, 0, none⟩ = false := by rw [hfc _ _ (by omega)]; exact f0
          replace d0 : wc.cell? ⟨w.heap.size + 1 + 1, 0, none⟩ = some (.int .i64 0) := by rw [hcc _ _ (by omega)]; exact d0
          replace h0 : wc.frozen? ⟨w.heap.size + 1 + 1, 0, none⟩ = false := by rw [hfc _ _ (by omega)]; exact h0
          replace c1 : wc.cell? ⟨w.heap.size + 1, 1, none⟩ = some (.int .i64 n0) := by rw [hcc _ _ (by omega)]; exact c1
          replace f1 : wc.frozen? ⟨w.heap.size + 1, 1, none⟩ = false := by rw [hfc _ _ (by omega)]; exact f1
          replace d1 : wc.cell? ⟨w.heap.size + 1 + 1, 1, none⟩ = some (.int .i64 0) := by rw [hcc _ _ (by omega)]; exact d1
          replace h1 : wc.frozen? ⟨w.heap.size + 1 + 1, 1, none⟩ = false := by rw [hfc _ _ (by omega)]; exact h1
          replace c2 : wc.cell? ⟨w.heap.size + 1, 2, none⟩ = some (.int .i64 0) := by rw [hcc _ _ (by omega)]; exact c2
          replace f2 : wc.frozen? ⟨w.heap.size + 1, 2, none⟩ = false := by rw [hfc _ _ (by omega)]; exact f2
          replace d2 : wc.cell? ⟨w.heap.size + 1 + 1, 2, none⟩ = some (.int .i64 0) := by rw [hcc _ _ (by omega)]; exact d2
          replace h2 : wc.frozen? ⟨w.heap.size + 1 + 1, 2, none⟩ = false := by rw [hfc _ _ (by omega)]; exact h2
          replace c3 : wc.cell? ⟨w.heap.size + 1, 3, none⟩ = some (.int .i64 0) := by rw [hcc _ _ (by omega)]; exact c3
          replace f3 : wc.frozen? ⟨w.heap.size + 1, 3, none⟩ = false := by rw [hfc _ _ (by omega)]; exact f3
          replace d3 : wc.cell? ⟨w.heap.size + 1 + 1, 3, none⟩ = some (.int .i64 0) := by rw [hcc _ _ (by omega)]; exact d3
          replace h3 : wc.frozen? ⟨w.heap.size + 1 + 1, 3, none⟩ = false := by rw [hfc _ _ (by omega)]; exact h3
          replace c4 : wc.cell? ⟨w.heap.size + 1, 4, none⟩ = some (.int .i64 0) := by rw [hcc _ _ (by omega)]; exact c4
          replace f4 : wc.frozen? ⟨w.heap.size + 1, 4, none⟩ = false := by rw [hfc _ _ (by omega)]; exact f4
          replace d4 : wc.cell? ⟨w.heap.size + 1 + 1, 4, none⟩ = some (.int .i64 0) := by rw [hcc _ _ (by omega)]; exact d4
          replace h4 : wc.frozen? ⟨w.heap.size + 1 + 1, 4, none⟩ = false := by rw [hfc _ _ (by omega)]; exact h4
          replace c5 : wc.cell? ⟨w.heap.size + 1, 5, none⟩ = some (.int .i64 0) := by rw [hcc _ _ (by omega)]; exact c5
          replace f5 : wc.frozen? ⟨w.heap.size + 1, 5, none⟩ = false := by rw [hfc _ _ (by omega)]; exact f5
          replace d5 : wc.cell? ⟨w.heap.size + 1 + 1, 5, none⟩ = some (.int .i64 0) := by rw [hcc _ _ (by omega)]; exact d5
          replace h5 : wc.frozen? ⟨w.heap.size + 1 + 1, 5, none⟩ = false := by rw [hfc _ _ (by omega)]; exact h5
          have hb_wc : Below w.heap.size w wc := hb_v1.trans (hbc.mono (by omega))
          have hzc := hbc.size
          clear hcc hfc pc TE hS0 hT_v1 hE_v1 z1
          cases q1 with
          | false =>
            go_wp2_with fail
            refine bodyPost_ret (v := .tuple #[.agg #[.int .i64 0, .int .i64 0, .int .i64 0, .int .i64 0, .int .i64 0, .int .i64 0], .bool false]) (by simp [results, Tryz.results97, go_sem, *]) rfl ⟨⟨#[.int .i64 0, .int .i64 0, .int .i64 0, .int .i64 0, .int .i64 0, .int .i64 0], by simp, fun h => (by simp at h), _, _, _, _, _, _, rfl⟩, ((((((hb_wc.setCell (by dsimp only; omega) _).setCell (by dsimp only; omega) _).setCell (by dsimp only; omega) _).setCell (by dsimp only; omega) _).setCell (by dsimp only; omega) _).setCell (by dsimp only; omega) _)⟩
          | true =>
            go_wp2_with fail
            rename_i hKK
            have hK := fun (ao' : Option Addr) (L2' : Nat) (s37 s38 s39 : Value) (W1 : World) (hL_2 : L2' + 1 = L1') (hao_2 : 0 < L2' → ao' = some ⟨B, 3, none⟩) (hcs : W1.cell? ⟨w.heap.size + 1, 0, none⟩ = some (.int .i64 k) ∧ W1.cell? ⟨w.heap.size + 1, 1, none⟩ = some (.int .i64 n0) ∧ W1.cell? ⟨w.heap.size + 1, 2, none⟩ = some (.int .i64 n1) ∧ W1.cell? ⟨w.heap.size + 1, 3, none⟩ = some (.int .i64 0) ∧ W1.cell? ⟨w.heap.size + 1, 4, none⟩ = some (.int .i64 0) ∧ W1.cell? ⟨w.heap.size + 1, 5, none⟩ = some (.int .i64 0)) (hfs : W1.frozen? ⟨w.heap.size + 1, 0, none⟩ = false ∧ W1.cell? ⟨w.heap.size + 1 + 1, 0, none⟩ = some (.int .i64 0) ∧ W1.frozen? ⟨w.heap.size + 1 + 1, 0, none⟩ = false ∧ W1.frozen? ⟨w.heap.size + 1, 1, none⟩ = false ∧ W1.cell? ⟨w.heap.size + 1 + 1, 1, none⟩ = some (.int .i64 0) ∧ W1.frozen? ⟨w.heap.size + 1 + 1, 1, none⟩ = false ∧ W1.frozen? ⟨w.heap.size + 1, 2, none⟩ = false ∧ W1.cell? ⟨w.heap.size + 1 + 1, 2, none⟩ = some (.int .i64 0) ∧ W1.frozen? ⟨w.heap.size + 1 + 1, 2, none⟩ = false ∧ W1.frozen? ⟨w.heap.size + 1, 3, none⟩ = false ∧ W1.cell? ⟨w.heap.size + 1 + 1, 3, none⟩ = some (.int .i64 0) ∧ W1.frozen? ⟨w.heap.size + 1 + 1, 3, none⟩ = false ∧ W1.frozen? ⟨w.heap.size + 1, 4, none⟩ = false ∧ W1.cell? ⟨w.heap.size + 1 + 1, 4, none⟩ = some (.int .i64 0) ∧ W1.frozen? ⟨w.heap.size + 1 + 1, 4, none⟩ = false ∧ W1.frozen? ⟨w.heap.size + 1, 5, none⟩ = false ∧ W1.cell? ⟨w.heap.size + 1 + 1, 5, none⟩ = some (.int .i64 0) ∧ W1.frozen? ⟨w.heap.size + 1 + 1, 5, none⟩ = false) (hb_W1 : Below w.heap.size w W1) (l_W1 : w.heap.size + 1 + 1 < W1.heap.size) =>
              hKK { tmps := #[.agg #[.string wd, p0, t0, .func (.func m0) #[] #[], p1, t1, .func (.func m1) #[] #[], p2, t2, .nilFunc, p3, t3, .nilFunc, u], .agg #[.int .i64 k, .int .i64 0, .int .i64 0, .int .i64 0, .int .i64 0, .int .i64 0], .slice ao' L2' L2', .pointer (some ⟨w.heap.size, 0, none⟩), .pointer (some ⟨w.heap.size + 1, 0, none⟩), undef, .pointer (some ⟨w.heap.size + 1 + 1, 0, none⟩), .bool false, undef, .pointer (some ⟨W0.heap.size, 0, none⟩), .pointer (some ⟨nb, 0, none⟩), .bool true, .pointer (some ⟨w.heap.size, 1, none⟩), .agg #[p0, t0, .func (.func m0) #[] #[], p1, t1, .func (.func m1) #[] #[], p2, t2, .nilFunc, p3, t3, .nilFunc], .int .i64 1, u15, u16, u17, u18, u19, u20, u21, u22, u23, u24, u25, u26, u27, u28, u29, u30, u31, u32, u33, .bool true, .bool false, u36, s37, s38, s39, u40, undef, undef, undef, undef], defers := [] } W1 (by
              clear hb_wc hbc hzc lb1 lb2 n0' n1' n2' n3' n4' n5' c0 f0 d0 h0 c1 f1 d1 h1 c2 f2 d2 h2 c3 f3 d3 h3 c4 f4 d4 h4 c5 f5 d5 h5
              obtain ⟨c0, c1, c2, c3, c4, c5⟩ := hcs
              obtain ⟨f0, d0, h0, f1, d1, h1, f2, d2, h2, f3, d3, h3, f4, d4, h4, f5, d5, h5⟩ := hfs
              go_wp2_with fail
              rw [rounds_succ]
              go_wp2_with (refine wpList_store_row rfl 75 (.tmp 9) (.tmp 16) rfl _ _ rfl rfl 75 _ (heap_new (by simp)) (by kernel_rfl) (by kernel_rfl) (by simp [oc_nilR, o2, g2]) ?_; rw [setRow_new (by simp)])
              obtain ⟨v2, hw_v2⟩ : ∃ x, x = W1.alloc (.cells #[p2, t2, .nilFunc] 75) := ⟨_, rfl⟩
              rw [← hw_v2]
              have hz_v2 : W1.heap.size < v2.heap.size := by rw [hw_v2]; simp
              have hx_v2 : Below W1.heap.size W1 v2 := by rw [hw_v2]; exact (Below.refl _ _).alloc (Nat.le_refl _) _
              obtain ⟨hc_v2, hf_v2⟩ := bcell hx_v2
              replace c0 : v2.cell? ⟨w.heap.size + 1, 0, none⟩ = some (.int .i64 k) := by rw [hc_v2 _ _ (by omega)]; exact c0
              replace f0 : v2.frozen? ⟨w.heap.size + 1, 0, none⟩ = false := by rw [hf_v2 _ _ (by omega)]; exact f0
              replace d0 : v2.cell? ⟨w.heap.size + 1 + 1, 0, none⟩ = some (.int .i64 0) := by rw [hc_v2 _ _ (by omega)]; exact d0
              replace h0 : v2.frozen? ⟨w.heap.size + 1 + 1, 0, none⟩ = false := by rw [hf_v2 _ _ (by omega)]; exact h0
              replace c1 : v2.cell? ⟨w.heap.size + 1, 1, none⟩ = some (.int .i64 n0) := by rw [hc_v2 _ _ (by omega)]; exact c1
              replace f1 : v2.frozen? ⟨w.heap.size + 1, 1, none⟩ = false := by rw [hf_v2 _ _ (by omega)]; exact f1
              replace d1 : v2.cell? ⟨w.heap.size + 1 + 1, 1, none⟩ = some (.int .i64 0) := by rw [hc_v2 _ _ (by omega)]; exact d1
              replace h1 : v2.frozen? ⟨w.heap.size + 1 + 1, 1, none⟩ = false := by rw [hf_v2 _ _ (by omega)]; exact h1
              replace c2 : v2.cell? ⟨w.heap.size + 1, 2, none⟩ = some (.int .i64 n1) := by rw [hc_v2 _ _ (by omega)]; exact c2
              replace f2 : v2.frozen? ⟨w.heap.size + 1, 2, none⟩ = false := by rw [hf_v2 _ _ (by omega)]; exact f2
              replace d2 : v2.cell? ⟨w.heap.size + 1 + 1, 2, none⟩ = some (.int .i64 0) := by rw [hc_v2 _ _ (by omega)]; exact d2
              replace h2 : v2.frozen? ⟨w.heap.size + 1 + 1, 2, none⟩ = false := by rw [hf_v2 _ _ (by omega)]; exact h2
              replace c3 : v2.cell? ⟨w.heap.size + 1, 3, none⟩ = some (.int .i64 0) := by rw [hc_v2 _ _ (by omega)]; exact c3
              replace f3 : v2.frozen? ⟨w.heap.size + 1, 3, none⟩ = false := by rw [hf_v2 _ _ (by omega)]; exact f3
              replace d3 : v2.cell? ⟨w.heap.size + 1 + 1, 3, none⟩ = some (.int .i64 0) := by rw [hc_v2 _ _ (by omega)]; exact d3
              replace h3 : v2.frozen? ⟨w.heap.size + 1 + 1, 3, none⟩ = false := by rw [hf_v2 _ _ (by omega)]; exact h3
              replace c4 : v2.cell? ⟨w.heap.size + 1, 4, none⟩ = some (.int .i64 0) := by rw [hc_v2 _ _ (by omega)]; exact c4
              replace f4 : v2.frozen? ⟨w.heap.size + 1, 4, none⟩ = false := by rw [hf_v2 _ _ (by omega)]; exact f4
              replace d4 : v2.cell? ⟨w.heap.size + 1 + 1, 4, none⟩ = some (.int .i64 0) := by rw [hc_v2 _ _ (by omega)]; exact d4
              replace h4 : v2.frozen? ⟨w.heap.size + 1 + 1, 4, none⟩ = false := by rw [hf_v2 _ _ (by omega)]; exact h4
              replace c5 : v2.cell? ⟨w.heap.size + 1, 5, none⟩ = some (.int .i64 0) := by rw [hc_v2 _ _ (by omega)]; exact c5
              replace f5 : v2.frozen? ⟨w.heap.size + 1, 5, none⟩ = false := by rw [hf_v2 _ _ (by omega)]; exact f5
              replace d5 : v2.cell? ⟨w.heap.size + 1 + 1, 5, none⟩ = some (.int .i64 0) := by rw [hc_v2 _ _ (by omega)]; exact d5
              replace h5 : v2.frozen? ⟨w.heap.size + 1 + 1, 5, none⟩ = false := by rw [hf_v2 _ _ (by omega)]; exact h5
              have hb_v2 : Below w.heap.size w v2 := hb_W1.trans (hx_v2.mono (by omega))
              have l_v2 : w.heap.size + 1 + 1 < v2.heap.size := by omega
              clear hw_v2 hc_v2 hf_v2 hx_v2
              rw [rounds_succ]
              go_wp2_with (refine wpList_store_row rfl 75 (.tmp 9) (.tmp 16) rfl _ _ rfl rfl 75 _ (heap_new (by simp)) (by kernel_rfl) (by kernel_rfl) (by simp [oc_nilR, o3, g3]) ?_; rw [setRow_new (by simp)])
              obtain ⟨v3, hw_v3⟩ : ∃ x, x = v2.alloc (.cells #[p3, t3, .nilFunc] 75) := ⟨_, rfl⟩
              rw [← hw_v3]
              have hz_v3 : v2.heap.size < v3.heap.size := by rw [hw_v3]; simp
              have hx_v3 : Below v2.heap.size v2 v3 := by rw [hw_v3]; exact (Below.refl _ _).alloc (Nat.le_refl _) _
              obtain ⟨hc_v3, hf_v3⟩ := bcell hx_v3
              replace c0 : v3.cell? ⟨w.heap.size + 1, 0, none⟩ = some (.int .i64 k) := by rw [hc_v3 _ _ (by omega)]; exact c0
              replace f0 : v3.frozen? ⟨w.heap.size + 1, 0, none⟩ = false := by rw [hf_v3 _ _ (by omega)]; exact f0
              replace d0 : v3.cell? ⟨w.heap.size + 1 + 1, 0, none⟩ = some (.int .i64 0) := by rw [hc_v3 _ _ (by omega)]; exact d0
              replace h0 : v3.frozen? ⟨w.heap.size + 1 + 1, 0, none⟩ = false := by rw [hf_v3 _ _ (by omega)]; exact h0
              replace c1 : v3.cell? ⟨w.heap.size + 1, 1, none⟩ = some (.int .i64 n0) := by rw [hc_v3 _ _ (by omega)]; exact c1
              replace f1 : v3.frozen? ⟨w.heap.size + 1, 1, none⟩ = false := by rw [hf_v3 _ _ (by omega)]; exact f1
              replace d1 : v3.cell? ⟨w.heap.size + 1 + 1, 1, none⟩ = some (.int .i64 0) := by rw [hc_v3 _ _ (by omega)]; exact d1
              replace h1 : v3.frozen? ⟨w.heap.size + 1 + 1, 1, none⟩ = false := by rw [hf_v3 _ _ (by omega)]; exact h1
              replace c2 : v3.cell? ⟨w.heap.size + 1, 2, none⟩ = some (.int .i64 n1) := by rw [hc_v3 _ _ (by omega)]; exact c2
              replace f2 : v3.frozen? ⟨w.heap.size + 1, 2, none⟩ = false := by rw [hf_v3 _ _ (by omega)]; exact f2
              replace d2 : v3.cell? ⟨w.heap.size + 1 + 1, 2, none⟩ = some (.int .i64 0) := by rw [hc_v3 _ _ (by omega)]; exact d2
              replace h2 : v3.frozen? ⟨w.heap.size + 1 + 1, 2, none⟩ = false := by rw [hf_v3 _ _ (by omega)]; exact h2
              replace c3 : v3.cell? ⟨w.heap.size + 1, 3, none⟩ = some (.int .i64 0) := by rw [hc_v3 _ _ (by omega)]; exact c3
              replace f3 : v3.frozen? ⟨w.heap.size + 1, 3, none⟩ = false := by rw [hf_v3 _ _ (by omega)]; exact f3
              replace d3 : v3.cell? ⟨w.heap.size + 1 + 1, 3, none⟩ = some (.int .i64 0) := by rw [hc_v3 _ _ (by omega)]; exact d3
              replace h3 : v3.frozen? ⟨w.heap.size + 1 + 1, 3, none⟩ = false := by rw [hf_v3 _ _ (by omega)]; exact h3
              replace c4 : v3.cell? ⟨w.heap.size + 1, 4, none⟩ = some (.int .i64 0) := by rw [hc_v3 _ _ (by omega)]; exact c4
              replace f4 : v3.frozen? ⟨w.heap.size + 1, 4, none⟩ = false := by rw [hf_v3 _ _ (by omega)]; exact f4
              replace d4 : v3.cell? ⟨w.heap.size + 1 + 1, 4, none⟩ = some (.int .i64 0) := by rw [hc_v3 _ _ (by omega)]; exact d4
              replace h4 : v3.frozen? ⟨w.heap.size + 1 + 1, 4, none⟩ = false := by rw [hf_v3 _ _ (by omega)]; exact h4
              replace c5 : v3.cell? ⟨w.heap.size + 1, 5, none⟩ = some (.int .i64 0) := by rw [hc_v3 _ _ (by omega)]; exact c5
              replace f5 : v3.frozen? ⟨w.heap.size + 1, 5, none⟩ = false := by rw [hf_v3 _ _ (by omega)]; exact f5
              replace d5 : v3.cell? ⟨w.heap.size + 1 + 1, 5, none⟩ = some (.int .i64 0) := by rw [hc_v3 _ _ (by omega)]; exact d5
              replace h5 : v3.frozen? ⟨w.heap.size + 1 + 1, 5, none⟩ = false := by rw [hf_v3 _ _ (by omega)]; exact h5
              have hb_v3 : Below w.heap.size w v3 := hb_v2.trans (hx_v3.mono (by omega))
              have l_v3 : w.heap.size + 1 + 1 < v3.heap.size := by omega
              clear hw_v3 hc_v3 hf_v3 hx_v3
              rw [rounds_succ]
              rcases Decidable.em (L2' = 0) with hz | hz
              · have e9 : ((L2' : Int) == 0) = true := by simp; omega
                go_wp2_with fail
                refine bodyPost_ret (v := .tuple #[.agg #[.int .i64 k, .int .i64 n0, .int .i64 n1, .int .i64 0, .int .i64 0, .int .i64 0], .bool true]) (by simp [results, Tryz.results97, go_sem, *]) rfl ⟨⟨#[.int .i64 k, .int .i64 n0, .int .i64 n1, .int .i64 0, .int .i64 0, .int .i64 0], by simp; omega, fun _ => rfl, _, _, _, _, _, _, rfl⟩, ((((((hb_v3.setCell (by dsimp only; omega) _).setCell (by dsimp only; omega) _).setCell (by dsimp only; omega) _).setCell (by dsimp only; omega) _).setCell (by dsimp only; omega) _).setCell (by dsimp only; omega) _)⟩
              · have e9 : ((L2' : Int) == 0) = false := by simp; omega
                go_wp2_with fail
                refine bodyPost_ret (v := .tuple #[.agg #[.int .i64 k, .int .i64 n0, .int .i64 n1, .int .i64 0, .int .i64 0, .int .i64 0], .bool false]) (by simp [results, Tryz.results97, go_sem, *]) rfl ⟨⟨#[.int .i64 k, .int .i64 n0, .int .i64 n1, .int .i64 0, .int .i64 0, .int .i64 0], by simp; omega, fun h => (by simp at h; omega), _, _, _, _, _, _, rfl⟩, ((((((hb_v3.setCell (by dsimp only; omega) _).setCell (by dsimp only; omega) _).setCell (by dsimp only; omega) _).setCell (by dsimp only; omega) _).setCell (by dsimp only; omega) _).setCell (by dsimp only; omega) _)⟩)
            have hL1 : 1 ≤ L1' := by omega
            have hL2 : (1 : Int) ≤ (L1' : Int) := by omega
            go_region
            all_goals go_step
            all_goals refine hK _ (L1' - 1) _ _ _ _ (by omega) ?_ ⟨?_, ?_, ?_, ?_, ?_, ?_⟩ ⟨?_, ?_, ?_, ?_, ?_, ?_, ?_, ?_, ?_, ?_, ?_, ?_, ?_, ?_, ?_, ?_, ?_, ?_⟩ ?_ ?_
            all_goals first | (intro h; rw [if_neg (by omega)]; done) | (simp [go_sem, *]; done) | exact ((((((hb_wc.setCell (by dsimp only; omega) _).setCell (by dsimp only; omega) _).setCell (by dsimp only; omega) _).setCell (by dsimp only; omega) _).setCell (by dsimp only; omega) _).setCell (by dsimp only; omega) _).drew | (simp [World.setCell]; omega))
      have hL1 : 1 ≤ L := by omega
      have hL2 : (1 : Int) ≤ (L : Int) := by omega
      go_region
      all_goals go_step
      all_goals refine hK _ (L - 1) _ _ _ _ (by omega) ?_ ⟨?_, ?_, ?_, ?_, ?_, ?_⟩ ⟨?_, ?_, ?_, ?_, ?_, ?_, ?_, ?_, ?_, ?_, ?_, ?_, ?_, ?_, ?_, ?_, ?_, ?_⟩ ?_ ?_
      all_goals first | (intro h; rw [if_neg (by omega)]; done) | (simp [go_sem, *]; done) | exact ((((((hb_wc.setCell (by dsimp only; omega) _).setCell (by dsimp only; omega) _).setCell (by dsimp only; omega) _).setCell (by dsimp only; omega) _).setCell (by dsimp only; omega) _).setCell (by dsimp only; omega) _).drew | (simp [World.setCell]; omega)
set_option maxRecDepth 20000 in
set_option maxHeartbeats 8000000 in
theorem readParts_1010 {wd : ByteArray} {p0 t0 p1 t1 p2 t2 p3 t3 u : Value} {m0 m2 : Nat} {k n0 n2 : Int} {x0 x1 : List UInt8} {q0 q1 : Bool}
    (o0 : p0.oneCell' = true) (g0 : t0.oneCell' = true) (o1 : p1.oneCell' = true) (g1 : t1.oneCell' = true) (o2 : p2.oneCell' = true) (g2 : t2.oneCell' = true) (o3 : p3.oneCell' = true) (g3 : t3.oneCell' = true) (B L : Nat) (ao : Option Addr) (hao : 0 < L → ao = some ⟨B, 1, none⟩)
    (e0 : ∀ args w, (callFunc m0 args).run Tryz.prog w = .ok (.enter m0 args) w) (k0 : ∀ w, Tab w → Errs w → Calls Tryz.prog m0 #[.agg #[.int .i64 k, .int .i64 0, .int .i64 0, .int .i64 0, .int .i64 0, .int .i64 0], .string ⟨x0.toArray⟩] w fun e w' => e = .returned (.tuple #[.agg #[.int .i64 k, .int .i64 n0, .int .i64 0, .int .i64 0, .int .i64 0, .int .i64 0], .bool q0]) ∧ Below w.heap.size w w')
    (e2 : ∀ args w, (callFunc m2 args).run Tryz.prog w = .ok (.enter m2 args) w) (k2 : ∀ w, Tab w → Errs w → Calls Tryz.prog m2 #[.agg #[.int .i64 k, .int .i64 n0, .int .i64 0, .int .i64 0, .int .i64 0, .int .i64 0], .string ⟨x1.toArray⟩] w fun e w' => e = .returned (.tuple #[.agg #[.int .i64 k, .int .i64 n0, .int .i64 0, .int .i64 n2, .int .i64 0, .int .i64 0], .bool q1]) ∧ Below w.heap.size w w')
    (w : World) (hT : Tab w) (hE : Errs w) (hB : B < w.heap.size) (y0 : 0 < L → w.cell? ⟨B, 1, none⟩ = some (.string ⟨x0.toArray⟩)) (y1 : 1 < L → w.cell? ⟨B, 2, none⟩ = some (.string ⟨x1.toArray⟩)) :
    Calls Tryz.prog 97 #[.agg #[.string wd, p0, t0, .func (.func m0) #[] #[], p1, t1, .nilFunc, p2, t2, .func (.func m2) #[] #[], p3, t3, .nilFunc, u], .agg #[.int .i64 k, .int .i64 0, .int .i64 0, .int .i64 0, .int .i64 0, .int .i64 0], .slice ao L L] w fun e w' => (∃ o, e = .returned (.tuple #[.agg o, .bool (decide (L = 2) && q0 && q1)]) ∧ ((decide (L = 2) && q0 && q1) = true → o = #[.int .i64 k, .int .i64 n0, .int .i64 0, .int .i64 n2, .int .i64 0, .int .i64 0]) ∧ ∃ c0 c1 c2 c3 c4 c5 : Int, o = #[.int .i64 c0, .int .i64 c1, .int .i64 c2, .int .i64 c3, .int .i64 c4, .int .i64 c5]) ∧ Below w.heap.size w w' := by
  have i0 : ∀ w, (Instr.index 76 (.agg #[p0, t0, .func (.func m0) #[] #[], p1, t1, .nilFunc, p2, t2, .func (.func m2) #[] #[], p3, t3, .nilFunc]) (.int .i64 0)).run Tryz.prog w = .ok (.agg #[p0, t0, .func (.func m0) #[] #[]]) w := fun _ => by kernel_rfl
  have i1 : ∀ w, (Instr.index 76 (.agg #[p0, t0, .func (.func m0) #[] #[], p1, t1, .nilFunc, p2, t2, .func (.func m2) #[] #[], p3, t3, .nilFunc]) (.int .i64 1)).run Tryz.prog w = .ok (.agg #[p1, t1, .nilFunc]) w := fun _ => by kernel_rfl
  have i2 : ∀ w, (Instr.index 76 (.agg #[p0, t0, .func (.func m0) #[] #[], p1, t1, .nilFunc, p2, t2, .func (.func m2) #[] #[], p3, t3, .nilFunc]) (.int .i64 2)).run Tryz.prog w = .ok (.agg #[p2, t2, .func (.func m2) #[] #[]]) w := fun _ => by kernel_rfl
  have i3 : ∀ w, (Instr.index 76 (.agg #[p0, t0, .func (.func m0) #[] #[], p1, t1, .nilFunc, p2, t2, .func (.func m2) #[] #[], p3, t3, .nilFunc]) (.int .i64 3)).run Tryz.prog w = .ok (.agg #[p3, t3, .nilFunc]) w := fun _ => by kernel_rfl
  have nq0 : ∀ w, (binOp .eql 73 (.func (.func m0) #[] #[]) .nilFunc).run Tryz.prog w = .ok (.bool false) w := fun _ => by kernel_rfl
  have nq2 : ∀ w, (binOp .eql 73 (.func (.func m2) #[] #[]) .nilFunc).run Tryz.prog w = .ok (.bool false) w := fun _ => by kernel_rfl
  have nq : ∀ w, (binOp .eql 73 .nilFunc .nilFunc).run Tryz.prog w = .ok (.bool true) w := fun _ => by kernel_rfl
  go_enter Tryz.func97, Tryz.ntmps97
  go_wp2_with fail
  obtain ⟨w1, hw1⟩ : ∃ x, x = ((w.alloc (.cells #[.string wd, p0, t0, .func (.func m0) #[] #[], p1, t1, .nilFunc, p2, t2, .func (.func m2) #[] #[], p3, t3, .nilFunc, u] 79)).alloc (.cells #[.int .i64 k, .int .i64 0, .int .i64 0, .int .i64 0, .int .i64 0, .int .i64 0] 43)).alloc (.cells #[.int .i64 0, .int .i64 0, .int .i64 0, .int .i64 0, .int .i64 0, .int .i64 0] 43) := ⟨_, rfl⟩
  rw [← hw1]
  have c0 : w1.cell? ⟨w.heap.size + 1, 0, none⟩ = some (.int .i64 k) := by rw [hw1]; simp [go_sem]
  have c1 : w1.cell? ⟨w.heap.size + 1, 1, none⟩ = some (.int .i64 0) := by rw [hw1]; simp [go_sem]
  have c2 : w1.cell? ⟨w.heap.size + 1, 2, none⟩ = some (.int .i64 0) := by rw [hw1]; simp [go_sem]
  have c3 : w1.cell? ⟨w.heap.size + 1, 3, none⟩ = some (.int .i64 0) := by rw [hw1]; simp [go_sem]
  have c4 : w1.cell? ⟨w.heap.size + 1, 4, none⟩ = some (.int .i64 0) := by rw [hw1]; simp [go_sem]
  have c5 : w1.cell? ⟨w.heap.size + 1, 5, none⟩ = some (.int .i64 0) := by rw [hw1]; simp [go_sem]
  have f0 : w1.frozen? ⟨w.heap.size + 1, 0, none⟩ = false := by rw [hw1]; simp [go_sem]
  have d0 : w1.cell? ⟨w.heap.size + 1 + 1, 0, none⟩ = some (.int .i64 0) := by rw [hw1]; simp [go_sem]
  have h0 : w1.frozen? ⟨w.heap.size + 1 + 1, 0, none⟩ = false := by rw [hw1]; simp [go_sem]
  have f1 : w1.frozen? ⟨w.heap.size + 1, 1, none⟩ = false := by rw [hw1]; simp [go_sem]
  have d1 : w1.cell? ⟨w.heap.size + 1 + 1, 1, none⟩ = some (.int .i64 0) := by rw [hw1]; simp [go_sem]
  have h1 : w1.frozen? ⟨w.heap.size + 1 + 1, 1, none⟩ = false := by rw [hw1]; simp [go_sem]
  have f2 : w1.frozen? ⟨w.heap.size + 1, 2, none⟩ = false := by rw [hw1]; simp [go_sem]
  have d2 : w1.cell? ⟨w.heap.size + 1 + 1, 2, none⟩ = some (.int .i64 0) := by rw [hw1]; simp [go_sem]
  have h2 : w1.frozen? ⟨w.heap.size + 1 + 1, 2, none⟩ = false := by rw [hw1]; simp [go_sem]
  have f3 : w1.frozen? ⟨w.heap.size + 1, 3, none⟩ = false := by rw [hw1]; simp [go_sem]
  have d3 : w1.cell? ⟨w.heap.size + 1 + 1, 3, none⟩ = some (.int .i64 0) := by rw [hw1]; simp [go_sem]
  have h3 : w1.frozen? ⟨w.heap.size + 1 + 1, 3, none⟩ = false := by rw [hw1]; simp [go_sem]
  have f4 : w1.frozen? ⟨w.heap.size + 1, 4, none⟩ = false := by rw [hw1]; simp [go_sem]
  have d4 : w1.cell? ⟨w.heap.size + 1 + 1, 4, none⟩ = some (.int .i64 0) := by rw [hw1]; simp [go_sem]
  have h4 : w1.frozen? ⟨w.heap.size + 1 + 1, 4, none⟩ = false := by rw [hw1]; simp [go_sem]
  have f5 : w1.frozen? ⟨w.heap.size + 1, 5, none⟩ = false := by rw [hw1]; simp [go_sem]
  have d5 : w1.cell? ⟨w.heap.size + 1 + 1, 5, none⟩ = some (.int .i64 0) := by rw [hw1]; simp [go_sem]
  have h5 : w1.frozen? ⟨w.heap.size + 1 + 1, 5, none⟩ = false := by rw [hw1]; simp [go_sem]
  have l_w1 : w.heap.size + 1 + 1 < w1.heap.size := by rw [hw1]; simp
  have hb_w1 : Below w.heap.size w w1 := by rw [hw1]; exact (((Below.refl _ _).alloc (Nat.le_refl _) _).alloc (by simp) _).alloc (by simp; omega) _
  have hao_0 := hao
  clear hw1
  refine wp_loop_rounds 5 ?_
  rw [rounds_succ]
  rcases Decidable.em (L = 0) with hz | hz
  · have e9 : ((L : Int) == 0) = true := by simp; omega
    go_wp2_with (refine wpList_store_row rfl 75 (.tmp 9) (.tmp 16) rfl _ _ rfl rfl 75 _ (heap_new (by simp)) (by kernel_rfl) (by kernel_rfl) (by simp [oc_func, o0, g0]) ?_; rw [setRow_new (by simp)])
    refine bodyPost_ret (v := .tuple #[.agg #[.int .i64 0, .int .i64 0, .int .i64 0, .int .i64 0, .int .i64 0, .int .i64 0], .bool false]) (by simp [results, Tryz.results97, go_sem, *]) rfl ⟨⟨#[.int .i64 0, .int .i64 0, .int .i64 0, .int .i64 0, .int .i64 0, .int .i64 0], by simp; omega, fun h => (by simp at h; omega), _, _, _, _, _, _, rfl⟩, ((((((hb_w1.setCell (by dsimp only; omega) _).setCell (by dsimp only; omega) _).setCell (by dsimp only; omega) _).setCell (by dsimp only; omega) _).setCell (by dsimp only; omega) _).setCell (by dsimp only; omega) _).alloc (by simp [World.setCell]; omega) _⟩
  have zL0 : ((L : Int) == 0) = false := by simp; omega
  have zM0 : (0 : Int) < (L : Int) := by omega
  have zN0 : 0 < L := by omega
  obtain rfl := hao_0 (by omega)
  go_wp2_with (refine wpList_store_row rfl 75 (.tmp 9) (.tmp 16) rfl _ _ rfl rfl 75 _ (heap_new (by simp)) (by kernel_rfl) (by kernel_rfl) (by simp [oc_func, o0, g0]) ?_; rw [setRow_new (by simp)])
  obtain ⟨v0, hw_v0⟩ : ∃ x, x = w1.alloc (.cells #[p0, t0, .func (.func m0) #[] #[]] 75) := ⟨_, rfl⟩
  rw [← hw_v0]
  have pc : v0.cell? ⟨w1.heap.size, 2, none⟩ = some (.func (.func m0) #[] #[]) := by rw [hw_v0]; simp [go_sem]
  have hz_v0 : w1.heap.size < v0.heap.size := by rw [hw_v0]; simp
  have hx_v0 : Below w1.heap.size w1 v0 := by rw [hw_v0]; exact (Below.refl _ _).alloc (Nat.le_refl _) _
  obtain ⟨hc_v0, hf_v0⟩ := bcell hx_v0
  replace c0 : v0.cell? ⟨w.heap.size + 1, 0, none⟩ = some (.int .i64 k) := by rw [hc_v0 _ _ (by omega)]; exact c0
  replace f0 : v0.frozen? ⟨w.heap.size + 1, 0, none⟩ = false := by rw [hf_v0 _ _ (by omega)]; exact f0
  replace d0 : v0.cell? ⟨w.heap.size + 1 + 1, 0, none⟩ = some (.int .i64 0) := by rw [hc_v0 _ _ (by omega)]; exact d0
  replace h0 : v0.frozen? ⟨w.heap.size + 1 + 1, 0, none⟩ = false := by rw [hf_v0 _ _ (by omega)]; exact h0
  replace c1 : v0.cell? ⟨w.heap.size + 1, 1, none⟩ = some (.int .i64 0) := by rw [hc_v0 _ _ (by omega)]; exact c1
  replace f1 : v0.frozen? ⟨w.heap.size + 1, 1, none⟩ = false := by rw [hf_v0 _ _ (by omega)]; exact f1
  replace d1 : v0.cell? ⟨w.heap.size + 1 + 1, 1, none⟩ = some (.int .i64 0) := by rw [hc_v0 _ _ (by omega)]; exact d1
  replace h1 : v0.frozen? ⟨w.heap.size + 1 + 1, 1, none⟩ = false := by rw [hf_v0 _ _ (by omega)]; exact h1
  replace c2 : v0.cell? ⟨w.heap.size + 1, 2, none⟩ = some (.int .i64 0) := by rw [hc_v0 _ _ (by omega)]; exact c2
  replace f2 : v0.frozen? ⟨w.heap.size + 1, 2, none⟩ = false := by rw [hf_v0 _ _ (by omega)]; exact f2
  replace d2 : v0.cell? ⟨w.heap.size + 1 + 1, 2, none⟩ = some (.int .i64 0) := by rw [hc_v0 _ _ (by omega)]; exact d2
  replace h2 : v0.frozen? ⟨w.heap.size + 1 + 1, 2, none⟩ = false := by rw [hf_v0 _ _ (by omega)]; exact h2
  replace c3 : v0.cell? ⟨w.heap.size + 1, 3, none⟩ = some (.int .i64 0) := by rw [hc_v0 _ _ (by omega)]; exact c3
  replace f3 : v0.frozen? ⟨w.heap.size + 1, 3, none⟩ = false := by rw [hf_v0 _ _ (by omega)]; exact f3
  replace d3 : v0.cell? ⟨w.heap.size + 1 + 1, 3, none⟩ = some (.int .i64 0) := by rw [hc_v0 _ _ (by omega)]; exact d3
  replace h3 : v0.frozen? ⟨w.heap.size + 1 + 1, 3, none⟩ = false := by rw [hf_v0 _ _ (by omega)]; exact h3
  replace c4 : v0.cell? ⟨w.heap.size + 1, 4, none⟩ = some (.int .i64 0) := by rw [hc_v0 _ _ (by omega)]; exact c4
  replace f4 : v0.frozen? ⟨w.heap.size + 1, 4, none⟩ = false := by rw [hf_v0 _ _ (by omega)]; exact f4
  replace d4 : v0.cell? ⟨w.heap.size + 1 + 1, 4, none⟩ = some (.int .i64 0) := by rw [hc_v0 _ _ (by omega)]; exact d4
  replace h4 : v0.frozen? ⟨w.heap.size + 1 + 1, 4, none⟩ = false := by rw [hf_v0 _ _ (by omega)]; exact h4
  replace c5 : v0.cell? ⟨w.heap.size + 1, 5, none⟩ = some (.int .i64 0) := by rw [hc_v0 _ _ (by omega)]; exact c5
  replace f5 : v0.frozen? ⟨w.heap.size + 1, 5, none⟩ = false := by rw [hf_v0 _ _ (by omega)]; exact f5
  replace d5 : v0.cell? ⟨w.heap.size + 1 + 1, 5, none⟩ = some (.int .i64 0) := by rw [hc_v0 _ _ (by omega)]; exact d5
  replace h5 : v0.frozen? ⟨w.heap.size + 1 + 1, 5, none⟩ = false := by rw [hf_v0 _ _ (by omega)]; exact h5
  have hb_v0 : Below w.heap.size w v0 := hb_w1.trans (hx_v0.mono (by omega))
  have z0 : v0.cell? ⟨B, 1, none⟩ = some (.string ⟨x0.toArray⟩) := (hb_v0.cell (p := ⟨B, 1, none⟩) hB).trans (y0 (by omega))
  have hT_v0 := hT.below hb_v0
  have hE_v0 := hE.below hb_v0
  clear hw_v0 hc_v0 hf_v0 hx_v0
  have lB2 : B < v0.heap.size := by have := hb_v0.size; omega
  have lo2 : w.heap.size + 1 < v0.heap.size := by omega
  have lr2 : w.heap.size + 1 + 1 < v0.heap.size := by omega
  have hS0 : Sev w1.heap.size (w.heap.size + 1) B 1 m0 (k) (0) (0) (0) (0) (0) x0 v0 v0 := ⟨pc, c0, c1, c2, c3, c4, c5, z0, Below.refl _ _⟩
  have TE : ∀ X, Sev w1.heap.size (w.heap.size + 1) B 1 m0 (k) (0) (0) (0) (0) (0) x0 v0 X → Tab X ∧ Errs X := fun X hX => ⟨hT_v0.below (Sev.below hX), hE_v0.below (Sev.below hX)⟩
  go_cut [10, 11, 14] from 14 to 40 (fun s10 s11 s14 wc => s14 = .int .i64 0 ∧ (∃ nb : Nat, s10 = .pointer (some ⟨nb, 0, none⟩) ∧ s11 = .bool q0 ∧ wc.cell? ⟨nb, 0, none⟩ = some (.int .i64 k) ∧ wc.cell? ⟨nb, 1, none⟩ = some (.int .i64 n0) ∧ wc.cell? ⟨nb, 2, none⟩ = some (.int .i64 0) ∧ wc.cell? ⟨nb, 3, none⟩ = some (.int .i64 0) ∧ wc.cell? ⟨nb, 4, none⟩ = some (.int .i64 0) ∧ wc.cell? ⟨nb, 5, none⟩ = some (.int .i64 0) ∧ v0.heap.size ≤ nb ∧ nb < wc.heap.size) ∧ Below v0.heap.size v0 wc)
  case first =>
    go_region_held3 (fun w' => w'.cell? ⟨w1.heap.size, 2, none⟩ = some (.func (.func m0) #[] #[]) ∧ w'.cell? ⟨w.heap.size + 1, 0, none⟩ = some (.int .i64 k) ∧ w'.cell? ⟨w.heap.size + 1, 1, none⟩ = some (.int .i64 0) ∧ w'.cell? ⟨w.heap.size + 1, 2, none⟩ = some (.int .i64 0) ∧ w'.cell? ⟨w.heap.size + 1, 3, none⟩ = some (.int .i64 0) ∧ w'.cell? ⟨w.heap.size + 1, 4, none⟩ = some (.int .i64 0) ∧ w'.cell? ⟨w.heap.size + 1, 5, none⟩ = some (.int .i64 0) ∧ w'.cell? ⟨B, 1, none⟩ = some (.string ⟨x0.toArray⟩) ∧ Below v0.heap.size v0 w')
      (first | (with_reducible refine sev_six hz_v0 lo2 lB2 ?_ (Nat.le_refl _) _ _ _ _ _ _; with_reducible assumption) | with_reducible exact sev_drew hz_v0 lo2 lB2 (by with_reducible assumption) | with_reducible exact sev_call hz_v0 lo2 lB2 (by with_reducible assumption) hbx | with_reducible exact sev_alloc hz_v0 lo2 lB2 (by with_reducible assumption) _ | with_reducible exact sev_drew hz_v0 lo2 lB2 (sev_alloc hz_v0 lo2 lB2 hS0 _) | with_reducible exact sev_realloc hz_v0 lo2 lB2 (by with_reducible assumption) (sz_of hbx) _)
      (first
        | (go_at_fn m0; refine (k0 _ (TE _ (by with_reducible assumption)).1 (TE _ (by with_reducible assumption)).2).mono ?_; rintro e wx ⟨rfl, hbx⟩; first | (with_reducible refine (fun hnx => ?_) (nx_of hbx); obtain ⟨a0, a1, a2, a3, a4, a5, b0, b1, b2, b3, b4, b5⟩ := hnx) | (with_reducible refine (fun hnx => ?_) (nx_of2 hbx); obtain ⟨a0, a1, a2, a3, a4, a5, b0, b1, b2, b3, b4, b5⟩ := hnx) | skip))
    all_goals go_wp2_with fail
    all_goals go_meet
    all_goals refine ⟨rfl, ⟨_, rfl, rfl, ?_, ?_, ?_, ?_, ?_, ?_, ?_, ?_⟩, ?_⟩
    all_goals first | (simp [go_sem]; done) | (simp [go_sem, a0, a1, a2, a3, a4, a5]; done) | exact Sev.below (by with_reducible assumption) | (have h9 := hbx.size; simp [World.setCell] at h9 ⊢; omega)
  case rest =>
    obtain ⟨rfl, ⟨nb, rfl, rfl, n0', n1', n2', n3', n4', n5', lb1, lb2⟩, hbc⟩ := hcut
    obtain ⟨hcc, hfc⟩ := bcell hbc
    replace c0 : wc.cell? ⟨w.heap.size + 1, 0, none⟩ = some (.int .i64 k) := by rw [hcc _ _ (by omega)]; exact c0
    replace f0 : wc.frozen? ⟨w.heap.size + 1, 0, none⟩ = false := by rw [hfc _ _ (by omega)]; exact f0
    replace d0 : wc.cell? ⟨w.heap.size + 1 + 1, 0, none⟩ = some (.int .i64 0) := by rw [hcc _ _ (by omega)]; exact d0
    replace h0 : wc.frozen? ⟨w.heap.size + 1 + 1, 0, none⟩ = false := by rw [hfc _ _ (by omega)]; exact h0
    replace c1 : wc.cell? ⟨w.heap.size + 1, 1, none⟩ = some (.int .i64 0) := by rw [hcc _ _ (by omega)]; exact c1
    replace f1 : wc.frozen? ⟨w.heap.size + 1, 1, none⟩ = false := by rw [hfc _ _ (by omega)]; exact f1
    replace d1 : wc.cell? ⟨w.heap.size + 1 + 1, 1, none⟩ = some (.int .i64 0) := by rw [hcc _ _ (by omega)]; exact d1
    replace h1 : wc.frozen? ⟨w.heap.size + 1 + 1, 1, none⟩ = false := by rw [hfc _ _ (by omega)]; exact h1
    replace c2 : wc.cell? ⟨w.heap.size + 1, 2, none⟩ = some (.int .i64 0) := by rw [hcc _ _ (by omega)]; exact c2
    replace f2 : wc.frozen? ⟨w.heap.size + 1, 2, none⟩ = false := by rw [hfc _ _ (by omega)]; exact f2
    replace d2 : wc.cell? ⟨w.heap.size + 1 + 1, 2, none⟩ = some (.int .i64 0) := by rw [hcc _ _ (by omega)]; exact d2
    replace h2 : wc.frozen? ⟨w.heap.size + 1 + 1, 2, none⟩ = false := by rw [hfc _ _ (by omega)]; exact h2
    replace c3 : wc.cell? ⟨w.heap.size + 1, 3, none⟩ = some (.int .i64 0) := by rw [hcc _ _ (by omega)]; exact c3
    replace f3 : wc.frozen? ⟨w.heap.size + 1, 3, none⟩ = false := by rw [hfc _ _ (by omega)]; exact f3
    replace d3 : wc.cell? ⟨w.heap.size + 1 + 1, 3, none⟩ = some (.int .i64 0) := by rw [hcc _ _ (by omega)]; exact d3
    replace h3 : wc.frozen? ⟨w.heap.size + 1 + 1, 3, none⟩ = false := by rw [hfc _ _ (by omega)]; exact h3
    replace c4 : wc.cell? ⟨w.heap.size + 1, 4, none⟩ = some (.int .i64 0) := by rw [hcc _ _ (by omega)]; exact c4
    replace f4 : wc.frozen? ⟨w.heap.size + 1, 4, none⟩ = false := by rw [hfc _ _ (by omega)]; exact f4
    replace d4 : wc.cell? ⟨w.heap.size + 1 + 1, 4, none⟩ = some (.int .i64 0) := by rw [hcc _ _ (by omega)]; exact d4
    replace h4 : wc.frozen? ⟨w.heap.size + 1 + 1, 4, none⟩ = false := by rw [hfc _ _ (by omega)]; exact h4
    replace c5 : wc.cell? ⟨w.heap.size + 1, 5, none⟩ = some (.int .i64 0) := by rw [hcc _ _ (by omega)]; exact c5
    replace f5 : wc.frozen? ⟨w.heap.size + 1, 5, none⟩ = false := by rw [hfc _ _ (by omega)]; exact f5
    replace d5 : wc.cell? ⟨w.heap.size + 1 + 1, 5, none⟩ = some (.int .i64 0) := by rw [hcc _ _ (by omega)]; exact d5
    replace h5 : wc.frozen? ⟨w.heap.size + 1 + 1, 5, none⟩ = false := by rw [hfc _ _ (by omega)]; exact h5
    have hb_wc : Below w.heap.size w wc := hb_v0.trans (hbc.mono (by omega))
    have hzc := hbc.size
    clear hcc hfc pc TE hS0 hT_v0 hE_v0 z0
    cases q0 with
    | false =>
      go_wp2_with fail
      refine bodyPost_ret (v := .tuple #[.agg #[.int .i64 0, .int .i64 0, .int .i64 0, .int .i64 0, .int .i64 0, .int .i64 0], .bool false]) (by simp [results, Tryz.results97, go_sem, *]) rfl ⟨⟨#[.int .i64 0, .int .i64 0, .int .i64 0, .int .i64 0, .int .i64 0, .int .i64 0], by simp, fun h => (by simp at h), _, _, _, _, _, _, rfl⟩, ((((((hb_wc.setCell (by dsimp only; omega) _).setCell (by dsimp only; omega) _).setCell (by dsimp only; omega) _).setCell (by dsimp only; omega) _).setCell (by dsimp only; omega) _).setCell (by dsimp only; omega) _)⟩
    | true =>
      go_wp2_with fail
      rename_i hKK
      have hK := fun (ao' : Option Addr) (L1' : Nat) (s37 s38 s39 : Value) (W0 : World) (hL_1 : L1' + 1 = L) (hao_1 : 0 < L1' → ao' = some ⟨B, 2, none⟩) (hcs : W0.cell? ⟨w.heap.size + 1, 0, none⟩ = some (.int .i64 k) ∧ W0.cell? ⟨w.heap.size + 1, 1, none⟩ = some (.int .i64 n0) ∧ W0.cell? ⟨w.heap.size + 1, 2, none⟩ = some (.int .i64 0) ∧ W0.cell? ⟨w.heap.size + 1, 3, none⟩ = some (.int .i64 0) ∧ W0.cell? ⟨w.heap.size + 1, 4, none⟩ = some (.int .i64 0) ∧ W0.cell? ⟨w.heap.size + 1, 5, none⟩ = some (.int .i64 0)) (hfs : W0.frozen? ⟨w.heap.size + 1, 0, none⟩ = false ∧ W0.cell? ⟨w.heap.size + 1 + 1, 0, none⟩ = some (.int .i64 0) ∧ W0.frozen? ⟨w.heap.size + 1 + 1, 0, none⟩ = false ∧ W0.frozen? ⟨w.heap.size + 1, 1, none⟩ = false ∧ W0.cell? ⟨w.heap.size + 1 + 1, 1, none⟩ = some (.int .i64 0) ∧ W0.frozen? ⟨w.heap.size + 1 + 1, 1, none⟩ = false ∧ W0.frozen? ⟨w.heap.size + 1, 2, none⟩ = false ∧ W0.cell? ⟨w.heap.size + 1 + 1, 2, none⟩ = some (.int .i64 0) ∧ W0.frozen? ⟨w.heap.size + 1 + 1, 2, none⟩ = false ∧ W0.frozen? ⟨w.heap.size + 1, 3, none⟩ = false ∧ W0.cell? ⟨w.heap.size + 1 + 1, 3, none⟩ = some (.int .i64 0) ∧ W0.frozen? ⟨w.heap.size + 1 + 1, 3, none⟩ = false ∧ W0.frozen? ⟨w.heap.size + 1, 4, none⟩ = false ∧ W0.cell? ⟨w.heap.size + 1 + 1, 4, none⟩ = some (.int .i64 0) ∧ W0.frozen? ⟨w.heap.size + 1 + 1, 4, none⟩ = false ∧ W0.frozen? ⟨w.heap.size + 1, 5, none⟩ = false ∧ W0.cell? ⟨w.heap.size + 1 + 1, 5, none⟩ = some (.int .i64 0) ∧ W0.frozen? ⟨w.heap.size + 1 + 1, 5, none⟩ = false) (hb_W0 : Below w.heap.size w W0) (l_W0 : w.heap.size + 1 + 1 < W0.heap.size) =>
        hKK { tmps := #[.agg #[.string wd, p0, t0, .func (.func m0) #[] #[], p1, t1, .nilFunc, p2, t2, .func (.func m2) #[] #[], p3, t3, .nilFunc, u], .agg #[.int .i64 k, .int .i64 0, .int .i64 0, .int .i64 0, .int .i64 0, .int .i64 0], .slice ao' L1' L1', .pointer (some ⟨w.heap.size, 0, none⟩), .pointer (some ⟨w.heap.size + 1, 0, none⟩), undef, .pointer (some ⟨w.heap.size + 1 + 1, 0, none⟩), .bool false, undef, .pointer (some ⟨w1.heap.size, 0, none⟩), .pointer (some ⟨nb, 0, none⟩), .bool true, .pointer (some ⟨w.heap.size, 1, none⟩), .agg #[p0, t0, .func (.func m0) #[] #[], p1, t1, .nilFunc, p2, t2, .func (.func m2) #[] #[], p3, t3, .nilFunc], .int .i64 0, u15, u16, u17, u18, u19, u20, u21, u22, u23, u24, u25, u26, u27, u28, u29, u30, u31, u32, u33, .bool true, .bool false, u36, s37, s38, s39, u40, undef, undef, undef, undef], defers := [] } W0 (by
        clear hb_wc hbc hzc lb1 lb2 n0' n1' n2' n3' n4' n5' c0 f0 d0 h0 c1 f1 d1 h1 c2 f2 d2 h2 c3 f3 d3 h3 c4 f4 d4 h4 c5 f5 d5 h5
        obtain ⟨c0, c1, c2, c3, c4, c5⟩ := hcs
        obtain ⟨f0, d0, h0, f1, d1, h1, f2, d2, h2, f3, d3, h3, f4, d4, h4, f5, d5, h5⟩ := hfs
        go_wp2_with fail
        rw [rounds_succ]
        go_wp2_with (refine wpList_store_row rfl 75 (.tmp 9) (.tmp 16) rfl _ _ rfl rfl 75 _ (heap_new (by simp)) (by kernel_rfl) (by kernel_rfl) (by simp [oc_nilR, o1, g1]) ?_; rw [setRow_new (by simp)])
        obtain ⟨v1, hw_v1⟩ : ∃ x, x = W0.alloc (.cells #[p1, t1, .nilFunc] 75) := ⟨_, rfl⟩
        rw [← hw_v1]
        have hz_v1 : W0.heap.size < v1.heap.size := by rw [hw_v1]; simp
        have hx_v1 : Below W0.heap.size W0 v1 := by rw [hw_v1]; exact (Below.refl _ _).alloc (Nat.le_refl _) _
        obtain ⟨hc_v1, hf_v1⟩ := bcell hx_v1
        replace c0 : v1.cell? ⟨w.heap.size + 1, 0, none⟩ = some (.int .i64 k) := by rw [hc_v1 _ _ (by omega)]; exact c0
        replace f0 : v1.frozen? ⟨w.heap.size + 1, 0, none⟩ = false := by rw [hf_v1 _ _ (by omega)]; exact f0
        replace d0 : v1.cell? ⟨w.heap.size + 1 + 1, 0, none⟩ = some (.int .i64 0) := by rw [hc_v1 _ _ (by omega)]; exact d0
        replace h0 : v1.frozen? ⟨w.heap.size + 1 + 1, 0, none⟩ = false := by rw [hf_v1 _ _ (by omega)]; exact h0
        replace c1 : v1.cell? ⟨w.heap.size + 1, 1, none⟩ = some (.int .i64 n0) := by rw [hc_v1 _ _ (by omega)]; exact c1
        replace f1 : v1.frozen? ⟨w.heap.size + 1, 1, none⟩ = false := by rw [hf_v1 _ _ (by omega)]; exact f1
        replace d1 : v1.cell? ⟨w.heap.size + 1 + 1, 1, none⟩ = some (.int .i64 0) := by rw [hc_v1 _ _ (by omega)]; exact d1
        replace h1 : v1.frozen? ⟨w.heap.size + 1 + 1, 1, none⟩ = false := by rw [hf_v1 _ _ (by omega)]; exact h1
        replace c2 : v1.cell? ⟨w.heap.size + 1, 2, none⟩ = some (.int .i64 0) := by rw [hc_v1 _ _ (by omega)]; exact c2
        replace f2 : v1.frozen? ⟨w.heap.size + 1, 2, none⟩ = false := by rw [hf_v1 _ _ (by omega)]; exact f2
        replace d2 : v1.cell? ⟨w.heap.size + 1 + 1, 2, none⟩ = some (.int .i64 0) := by rw [hc_v1 _ _ (by omega)]; exact d2
        replace h2 : v1.frozen? ⟨w.heap.size + 1 + 1, 2, none⟩ = false := by rw [hf_v1 _ _ (by omega)]; exact h2
        replace c3 : v1.cell? ⟨w.heap.size + 1, 3, none⟩ = some (.int .i64 0) := by rw [hc_v1 _ _ (by omega)]; exact c3
        replace f3 : v1.frozen? ⟨w.heap.size + 1, 3, none⟩ = false := by rw [hf_v1 _ _ (by omega)]; exact f3
        replace d3 : v1.cell? ⟨w.heap.size + 1 + 1, 3, none⟩ = some (.int .i64 0) := by rw [hc_v1 _ _ (by omega)]; exact d3
        replace h3 : v1.frozen? ⟨w.heap.size + 1 + 1, 3, none⟩ = false := by rw [hf_v1 _ _ (by omega)]; exact h3
        replace c4 : v1.cell? ⟨w.heap.size + 1, 4, none⟩ = some (.int .i64 0) := by rw [hc_v1 _ _ (by omega)]; exact c4
        replace f4 : v1.frozen? ⟨w.heap.size + 1, 4, none⟩ = false := by rw [hf_v1 _ _ (by omega)]; exact f4
        replace d4 : v1.cell? ⟨w.heap.size + 1 + 1, 4, none⟩ = some (.int .i64 0) := by rw [hc_v1 _ _ (by omega)]; exact d4
        replace h4 : v1.frozen? ⟨w.heap.size + 1 + 1, 4, none⟩ = false := by rw [hf_v1 _ _ (by omega)]; exact h4
        replace c5 : v1.cell? ⟨w.heap.size + 1, 5, none⟩ = some (.int .i64 0) := by rw [hc_v1 _ _ (by omega)]; exact c5
        replace f5 : v1.frozen? ⟨w.heap.size + 1, 5, none⟩ = false := by rw [hf_v1 _ _ (by omega)]; exact f5
        replace d5 : v1.cell? ⟨w.heap.size + 1 + 1, 5, none⟩ = some (.int .i64 0) := by rw [hc_v1 _ _ (by omega)]; exact d5
        replace h5 : v1.frozen? ⟨w.heap.size + 1 + 1, 5, none⟩ = false := by rw [hf_v1 _ _ (by omega)]; exact h5
        have hb_v1 : Below w.heap.size w v1 := hb_W0.trans (hx_v1.mono (by omega))
        have l_v1 : w.heap.size + 1 + 1 < v1.heap.size := by omega
        clear hw_v1 hc_v1 hf_v1 hx_v1
        rw [rounds_succ]
        rcases Decidable.em (L1' = 0) with hz | hz
        · have e9 : ((L1' : Int) == 0) = true := by simp; omega
          go_wp2_with (refine wpList_store_row rfl 75 (.tmp 9) (.tmp 16) rfl _ _ rfl rfl 75 _ (heap_new (by simp)) (by kernel_rfl) (by kernel_rfl) (by simp [oc_func, o2, g2]) ?_; rw [setRow_new (by simp)])
          refine bodyPost_ret (v := .tuple #[.agg #[.int .i64 0, .int .i64 0, .int .i64 0, .int .i64 0, .int .i64 0, .int .i64 0], .bool false]) (by simp [results, Tryz.results97, go_sem, *]) rfl ⟨⟨#[.int .i64 0, .int .i64 0, .int .i64 0, .int .i64 0, .int .i64 0, .int .i64 0], by simp; omega, fun h => (by simp at h; omega), _, _, _, _, _, _, rfl⟩, ((((((hb_v1.setCell (by dsimp only; omega) _).setCell (by dsimp only; omega) _).setCell (by dsimp only; omega) _).setCell (by dsimp only; omega) _).setCell (by dsimp only; omega) _).setCell (by dsimp only; omega) _).alloc (by simp [World.setCell]; omega) _⟩
        have zL1 : ((L1' : Int) == 0) = false := by simp; omega
        have zM1 : (0 : Int) < (L1' : Int) := by omega
        have zN1 : 0 < L1' := by omega
        obtain rfl := hao_1 (by omega)
        go_wp2_with (refine wpList_store_row rfl 75 (.tmp 9) (.tmp 16) rfl _ _ rfl rfl 75 _ (heap_new (by simp)) (by kernel_rfl) (by kernel_rfl) (by simp [oc_func, o2, g2]) ?_; rw [setRow_new (by simp)])
        obtain ⟨v2, hw_v2⟩ : ∃ x, x = v1.alloc (.cells #[p2, t2, .func (.func m2) #[] #[]] 75) := ⟨_, rfl⟩
        rw [← hw_v2]
        have pc : v2.cell? ⟨v1.heap.size, 2, none⟩ = some (.func (.func m2) #[] #[]) := by rw [hw_v2]; simp [go_sem]
        have hz_v2 : v1.heap.size < v2.heap.size := by rw [hw_v2]; simp
        have hx_v2 : Below v1.heap.size v1 v2 := by rw [hw_v2]; exact (Below.refl _ _).alloc (Nat.le_refl _) _
        obtain ⟨hc_v2, hf_v2⟩ := bcell hx_v2
        replace c0 : v2.cell? ⟨w.heap.size + 1, 0, none⟩ = some (.int .i64 k) := by rw [hc_v2 _ _ (by omega)]; exact c0
        replace f0 : v2.frozen? ⟨w.heap.size + 1, 0, none⟩ = false := by rw [hf_v2 _ _ (by omega)]; exact f0
        replace d0 : v2.cell? ⟨w.heap.size + 1 + 1, 0, none⟩ = some (.int .i64 0) := by rw [hc_v2 _ _ (by omega)]; exact d0
        replace h0 : v2.frozen? ⟨w.heap.size + 1 + 1, 0, none⟩ = false := by rw [hf_v2 _ _ (by omega)]; exact h0
        replace c1 : v2.cell? ⟨w.heap.size + 1, 1, none⟩ = some (.int .i64 n0) := by rw [hc_v2 _ _ (by omega)]; exact c1
        replace f1 : v2.frozen? ⟨w.heap.size + 1, 1, none⟩ = false := by rw [hf_v2 _ _ (by omega)]; exact f1
        replace d1 : v2.cell? ⟨w.heap.size + 1 + 1, 1, none⟩ = some (.int .i64 0) := by rw [hc_v2 _ _ (by omega)]; exact d1
        replace h1 : v2.frozen? ⟨w.heap.size + 1 + 1, 1, none⟩ = false := by rw [hf_v2 _ _ (by omega)]; exact h1
        replace c2 : v2.cell? ⟨w.heap.size + 1, 2, none⟩ = some (.int .i64 0) := by rw [hc_v2 _ _ (by omega)]; exact c2
        replace f2 : v2.frozen? ⟨w.heap.size + 1, 2, none⟩ = false := by rw [hf_v2 _ _ (by omega)]; exact f2
        replace d2 : v2.cell? ⟨w.heap.size + 1 + 1, 2, none⟩ = some (.int .i64 0) := by rw [hc_v2 _ _ (by omega)]; exact d2
        replace h2 : v2.frozen? ⟨w.heap.size + 1 + 1, 2, none⟩ = false := by rw [hf_v2 _ _ (by omega)]; exact h2
        replace c3 : v2.cell? ⟨w.heap.size + 1, 3, none⟩ = some (.int .i64 0) := by rw [hc_v2 _ _ (by omega)]; exact c3
        replace f3 : v2.frozen? ⟨w.heap.size + 1, 3, none⟩ = false := by rw [hf_v2 _ _ (by omega)]; exact f3
        replace d3 : v2.cell? ⟨w.heap.size + 1 + 1, 3, none⟩ = some (.int .i64 0) := by rw [hc_v2 _ _ (by omega)]; exact d3
        replace h3 : v2.frozen? ⟨w.heap.size + 1 + 1, 3, none⟩ = false := by rw [hf_v2 _ _ (by omega)]; exact h3
        replace c4 : v2.cell? ⟨w.heap.size + 1, 4, none⟩ = some (.int .i64 0) := by rw [hc_v2 _ _ (by omega)]; exact c4
        replace f4 : v2.frozen? ⟨w.heap.size + 1, 4, none⟩ = false := by rw [hf_v2 _ _ (by omega)]; exact f4
        replace d4 : v2.cell? ⟨w.heap.size + 1 + 1, 4, none⟩ = some (.int .i64 0) := by rw [hc_v2 _ _ (by omega)]; exact d4
        replace h4 : v2.frozen? ⟨w.heap.size + 1 + 1, 4, none⟩ = false := by rw [hf_v2 _ _ (by omega)]; exact h4
        replace c5 : v2.cell? ⟨w.heap.size + 1, 5, none⟩ = some (.int .i64 0) := by rw [hc_v2 _ _ (by omega)]; exact c5
        replace f5 : v2.frozen? ⟨w.heap.size + 1, 5, none⟩ = false := by rw [hf_v2 _ _ (by omega)]; exact f5
        replace d5 : v2.cell? ⟨w.heap.size + 1 + 1, 5, none⟩ = some (.int .i64 0) := by rw [hc_v2 _ _ (by omega)]; exact d5
        replace h5 : v2.frozen? ⟨w.heap.size + 1 + 1, 5, none⟩ = false := by rw [hf_v2 _ _ (by omega)]; exact h5
        have hb_v2 : Below w.heap.size w v2 := hb_v1.trans (hx_v2.mono (by omega))
        have z1 : v2.cell? ⟨B, 2, none⟩ = some (.string ⟨x1.toArray⟩) := (hb_v2.cell (p := ⟨B, 2, none⟩) hB).trans (y1 (by omega))
        have hT_v2 := hT.below hb_v2
        have hE_v2 := hE.below hb_v2
        clear hw_v2 hc_v2 hf_v2 hx_v2
        have lB2 : B < v2.heap.size := by have := hb_v2.size; omega
        have lo2 : w.heap.size + 1 < v2.heap.size := by omega
        have lr2 : w.heap.size + 1 + 1 < v2.heap.size := by omega
        have hS0 : Sev v1.heap.size (w.heap.size + 1) B 2 m2 (k) (n0) (0) (0) (0) (0) x1 v2 v2 := ⟨pc, c0, c1, c2, c3, c4, c5, z1, Below.refl _ _⟩
        have TE : ∀ X, Sev v1.heap.size (w.heap.size + 1) B 2 m2 (k) (n0) (0) (0) (0) (0) x1 v2 X → Tab X ∧ Errs X := fun X hX => ⟨hT_v2.below (Sev.below hX), hE_v2.below (Sev.below hX)⟩
        go_cut [10, 11, 14] from 14 to 40 (fun s10 s11 s14 wc => s14 = .int .i64 2 ∧ (∃ nb : Nat, s10 = .pointer (some ⟨nb, 0, none⟩) ∧ s11 = .bool q1 ∧ wc.cell? ⟨nb, 0, none⟩ = some (.int .i64 k) ∧ wc.cell? ⟨nb, 1, none⟩ = some (.int .i64 n0) ∧ wc.cell? ⟨nb, 2, none⟩ = some (.int .i64 0) ∧ wc.cell? ⟨nb, 3, none⟩ = some (.int .i64 n2) ∧ wc.cell? ⟨nb, 4, none⟩ = some (.int .i64 0) ∧ wc.cell? ⟨nb, 5, none⟩ = some (.int .i64 0) ∧ v2.heap.size ≤ nb ∧ nb < wc.heap.size) ∧ Below v2.heap.size v2 wc)
        case first =>
          go_region_held3 (fun w' => w'.cell? ⟨v1.heap.size, 2, none⟩ = some (.func (.func m2) #[] #[]) ∧ w'.cell? ⟨w.heap.size + 1, 0, none⟩ = some (.int .i64 k) ∧ w'.cell? ⟨w.heap.size + 1, 1, none⟩ = some (.int .i64 n0) ∧ w'.cell? ⟨w.heap.size + 1, 2, none⟩ = some (.int .i64 0) ∧ w'.cell? ⟨w.heap.size + 1, 3, none⟩ = some (.int .i64 0) ∧ w'.cell? ⟨w.heap.size + 1, 4, none⟩ = some (.int .i64 0) ∧ w'.cell? ⟨w.heap.size + 1, 5, none⟩ = some (.int .i64 0) ∧ w'.cell? ⟨B, 2, none⟩ = some (.string ⟨x1.toArray⟩) ∧ Below v2.heap.size v2 w')
            (first | (with_reducible refine sev_six hz_v2 lo2 lB2 ?_ (Nat.le_refl _) _ _ _ _ _ _; with_reducible assumption) | with_reducible exact sev_drew hz_v2 lo2 lB2 (by with_reducible assumption) | with_reducible exact sev_call hz_v2 lo2 lB2 (by with_reducible assumption) hbx | with_reducible exact sev_alloc hz_v2 lo2 lB2 (by with_reducible assumption) _ | with_reducible exact sev_drew hz_v2 lo2 lB2 (sev_alloc hz_v2 lo2 lB2 hS0 _) | with_reducible exact sev_realloc hz_v2 lo2 lB2 (by with_reducible assumption) (sz_of hbx) _)
            (first
              | (go_at_fn m2; refine (k2 _ (TE _ (by with_reducible assumption)).1 (TE _ (by with_reducible assumption)).2).mono ?_; rintro e wx ⟨rfl, hbx⟩; first | (with_reducible refine (fun hnx => ?_) (nx_of hbx); obtain ⟨a0, a1, a2, a3, a4, a5, b0, b1, b2, b3, b4, b5⟩ := hnx) | (with_reducible refine (fun hnx => ?_) (nx_of2 hbx); obtain ⟨a0, a1, a2, a3, a4, a5, b0, b1, b2, b3, b4, b5⟩ := hnx) | skip))
          all_goals go_wp2_with fail
          all_goals go_meet
          all_goals refine ⟨rfl, ⟨_, rfl, rfl, ?_, ?_, ?_, ?_, ?_, ?_, ?_, ?_⟩, ?_⟩
          all_goals first | (simp [go_sem]; done) | (simp [go_sem, a0, a1, a2, a3, a4, a5]; done) | exact Sev.below (by with_reducible assumption) | (have h9 := hbx.size; simp [World.setCell] at h9 ⊢; omega)
        case rest =>
          obtain ⟨rfl, ⟨nb, rfl, rfl, n0', n1', n2', n3', n4', n5', lb1, lb2⟩, hbc⟩ := hcut
          obtain ⟨hcc, hfc⟩ := bcell hbc
          replace c0 : wc.cell? ⟨w.heap.size + 1, 0, none⟩ = some (.int .i64 k) := by rw [hcc _ _ (by omega)]; exact c0
          replace f0 : wc.frozen? ⟨w.heap.size + 1, 0, none⟩ = false := by rw [hfc _ _ (by omega)]; exact f0
          replace d0 : wc.cell? ⟨w.heap.size + 1 + 1, 0, none⟩ = some (.int .i64 0) := by rw [hcc _ _ (by omega)]; exact d0
          replace h0 : wc.frozen? ⟨w.heap.size + 1 + 1, 0, none⟩ = false := by rw [hfc _ _ (by omega)]; exact h0
          replace c1 : wc.cell? ⟨w.heap.size + 1, 1, none⟩ = some (.int .i64 n0) := by rw [hcc _ _ (by omega)]; exact c1
          replace f1 : wc.frozen? ⟨w.heap.size + 1, 1, none⟩ = false := by rw [hfc _ _ (by omega)]; exact f1
          replace d1 : wc.cell? ⟨w.heap.size + 1 + 1, 1, none⟩ = some (.int .i64 0) := by rw [hcc _ _ (by omega)]; exact d1
          replace h1 : wc.frozen? ⟨w.heap.size + 1 + 1, 1, none⟩ = false := by rw [hfc _ _ (by omega)]; exact h1
          replace c2 : wc.cell? ⟨w.heap.size + 1, 2, none⟩ = some (.int .i64 0) := by rw [hcc _ _ (by omega)]; exact c2
          replace f2 : wc.frozen? ⟨w.heap.size + 1, 2, none⟩ = false := by rw [hfc _ _ (by omega)]; exact f2
          replace d2 : wc.cell? ⟨w.heap.size + 1 + 1, 2, none⟩ = some (.int .i64 0) := by rw [hcc _ _ (by omega)]; exact d2
          replace h2 : wc.frozen? ⟨w.heap.size + 1 + 1, 2, none⟩ = false := by rw [hfc _ _ (by omega)]; exact h2
          replace c3 : wc.cell? ⟨w.heap.size + 1, 3, none⟩ = some (.int .i64 0) := by rw [hcc _ _ (by omega)]; exact c3
          replace f3 : wc.frozen? ⟨w.heap.size + 1, 3, none⟩ = false := by rw [hfc _ _ (by omega)]; exact f3
          replace d3 : wc.cell? ⟨w.heap.size + 1 + 1, 3, none⟩ = some (.int .i64 0) := by rw [hcc _ _ (by omega)]; exact d3
          replace h3 : wc.frozen? ⟨w.heap.size + 1 + 1, 3, none⟩ = false := by rw [hfc _ _ (by omega)]; exact h3
          replace c4 : wc.cell? ⟨w.heap.size + 1, 4, none⟩ = some (.int .i64 0) := by rw [hcc _ _ (by omega)]; exact c4
          replace f4 : wc.frozen? ⟨w.heap.size + 1, 4, none⟩ = false := by rw [hfc _ _ (by omega)]; exact f4
          replace d4 : wc.cell? ⟨w.heap.size + 1 + 1, 4, none⟩ = some (.int .i64 0) := by rw [hcc _ _ (by omega)]; exact d4
          replace h4 : wc.frozen? ⟨w.heap.size + 1 + 1, 4, none⟩ = false := by rw [hfc _ _ (by omega)]; exact h4
          replace c5 : wc.cell? ⟨w.heap.size + 1, 5, none⟩ = some (.int .i64 0) := by rw [hcc _ _ (by omega)]; exact c5
          replace f5 : wc.frozen? ⟨w.heap.size + 1, 5, none⟩ = false := by rw [hfc _ _ (by omega)]; exact f5
          replace d5 : wc.cell? ⟨w.heap.size + 1 + 1, 5, none⟩ = some (.int .i64 0) := by rw [hcc _ _ (by omega)]; exact d5
          replace h5 : wc.frozen? ⟨w.heap.size + 1 + 1, 5, none⟩ = false := by rw [hfc _ _ (by omega)]; exact h5
          have hb_wc : Below w.heap.size w wc := hb_v2.trans (hbc.mono (by omega))
          have hzc := hbc.size
          clear hcc hfc pc TE hS0 hT_v2 hE_v2 z1
          cases q1 with
          | false =>
            go_wp2_with fail
            refine bodyPost_ret (v := .tuple #[.agg #[.int .i64 0, .int .i64 0, .int .i64 0, .int .i64 0, .int .i64 0, .int .i64 0], .bool false]) (by simp [results, Tryz.results97, go_sem, *]) rfl ⟨⟨#[.int .i64 0, .int .i64 0, .int .i64 0, .int .i64 0, .int .i64 0, .int .i64 0], by simp, fun h => (by simp at h), _, _, _, _, _, _, rfl⟩, ((((((hb_wc.setCell (by dsimp only; omega) _).setCell (by dsimp only; omega) _).setCell (by dsimp only; omega) _).setCell (by dsimp only; omega) _).setCell (by dsimp only; omega) _).setCell (by dsimp only; omega) _)⟩
          | true =>
            go_wp2_with fail
            rename_i hKK
            have hK := fun (ao' : Option Addr) (L2' : Nat) (s37 s38 s39 : Value) (W1 : World) (hL_2 : L2' + 1 = L1') (hao_2 : 0 < L2' → ao' = some ⟨B, 3, none⟩) (hcs : W1.cell? ⟨w.heap.size + 1, 0, none⟩ = some (.int .i64 k) ∧ W1.cell? ⟨w.heap.size + 1, 1, none⟩ = some (.int .i64 n0) ∧ W1.cell? ⟨w.heap.size + 1, 2, none⟩ = some (.int .i64 0) ∧ W1.cell? ⟨w.heap.size + 1, 3, none⟩ = some (.int .i64 n2) ∧ W1.cell? ⟨w.heap.size + 1, 4, none⟩ = some (.int .i64 0) ∧ W1.cell? ⟨w.heap.size + 1, 5, none⟩ = some (.int .i64 0)) (hfs : W1.frozen? ⟨w.heap.size + 1, 0, none⟩ = false ∧ W1.cell? ⟨w.heap.size + 1 + 1, 0, none⟩ = some (.int .i64 0) ∧ W1.frozen? ⟨w.heap.size + 1 + 1, 0, none⟩ = false ∧ W1.frozen? ⟨w.heap.size + 1, 1, none⟩ = false ∧ W1.cell? ⟨w.heap.size + 1 + 1, 1, none⟩ = some (.int .i64 0) ∧ W1.frozen? ⟨w.heap.size + 1 + 1, 1, none⟩ = false ∧ W1.frozen? ⟨w.heap.size + 1, 2, none⟩ = false ∧ W1.cell? ⟨w.heap.size + 1 + 1, 2, none⟩ = some (.int .i64 0) ∧ W1.frozen? ⟨w.heap.size + 1 + 1, 2, none⟩ = false ∧ W1.frozen? ⟨w.heap.size + 1, 3, none⟩ = false ∧ W1.cell? ⟨w.heap.size + 1 + 1, 3, none⟩ = some (.int .i64 0) ∧ W1.frozen? ⟨w.heap.size + 1 + 1, 3, none⟩ = false ∧ W1.frozen? ⟨w.heap.size + 1, 4, none⟩ = false ∧ W1.cell? ⟨w.heap.size + 1 + 1, 4, none⟩ = some (.int .i64 0) ∧ W1.frozen? ⟨w.heap.size + 1 + 1, 4, none⟩ = false ∧ W1.frozen? ⟨w.heap.size + 1, 5, none⟩ = false ∧ W1.cell? ⟨w.heap.size + 1 + 1, 5, none⟩ = some (.int .i64 0) ∧ W1.frozen? ⟨w.heap.size + 1 + 1, 5, none⟩ = false) (hb_W1 : Below w.heap.size w W1) (l_W1 : w.heap.size + 1 + 1 < W1.heap.size) =>
              hKK { tmps := #[.agg #[.string wd, p0, t0, .func (.func m0) #[] #[], p1, t1, .nilFunc, p2, t2, .func (.func m2) #[] #[], p3, t3, .nilFunc, u], .agg #[.int .i64 k, .int .i64 0, .int .i64 0, .int .i64 0, .int .i64 0, .int .i64 0], .slice ao' L2' L2', .pointer (some ⟨w.heap.size, 0, none⟩), .pointer (some ⟨w.heap.size + 1, 0, none⟩), undef, .pointer (some ⟨w.heap.size + 1 + 1, 0, none⟩), .bool false, undef, .pointer (some ⟨v1.heap.size, 0, none⟩), .pointer (some ⟨nb, 0, none⟩), .bool true, .pointer (some ⟨w.heap.size, 1, none⟩), .agg #[p0, t0, .func (.func m0) #[] #[], p1, t1, .nilFunc, p2, t2, .func (.func m2) #[] #[], p3, t3, .nilFunc], .int .i64 2, u15, u16, u17, u18, u19, u20, u21, u22, u23, u24, u25, u26, u27, u28, u29, u30, u31, u32, u33, .bool true, .bool false, u36, s37, s38, s39, u40, undef, undef, undef, undef], defers := [] } W1 (by
              clear hb_wc hbc hzc lb1 lb2 n0' n1' n2' n3' n4' n5' c0 f0 d0 h0 c1 f1 d1 h1 c2 f2 d2 h2 c3 f3 d3 h3 c4 f4 d4 h4 c5 f5 d5 h5
              obtain ⟨c0, c1, c2, c3, c4, c5⟩ := hcs
              obtain ⟨f0, d0, h0, f1, d1, h1, f2, d2, h2, f3, d3, h3, f4, d4, h4, f5, d5, h5⟩ := hfs
              go_wp2_with fail
              rw [rounds_succ]
              go_wp2_with (refine wpList_store_row rfl 75 (.tmp 9) (.tmp 16) rfl _ _ rfl rfl 75 _ (heap_new (by simp)) (by kernel_rfl) (by kernel_rfl) (by simp [oc_nilR, o3, g3]) ?_; rw [setRow_new (by simp)])
              obtain ⟨v3, hw_v3⟩ : ∃ x, x = W1.alloc (.cells #[p3, t3, .nilFunc] 75) := ⟨_, rfl⟩
              rw [← hw_v3]
              have hz_v3 : W1.heap.size < v3.heap.size := by rw [hw_v3]; simp
              have hx_v3 : Below W1.heap.size W1 v3 := by rw [hw_v3]; exact (Below.refl _ _).alloc (Nat.le_refl _) _
              obtain ⟨hc_v3, hf_v3⟩ := bcell hx_v3
              replace c0 : v3.cell? ⟨w.heap.size + 1, 0, none⟩ = some (.int .i64 k) := by rw [hc_v3 _ _ (by omega)]; exact c0
              replace f0 : v3.frozen? ⟨w.heap.size + 1, 0, none⟩ = false := by rw [hf_v3 _ _ (by omega)]; exact f0
              replace d0 : v3.cell? ⟨w.heap.size + 1 + 1, 0, none⟩ = some (.int .i64 0) := by rw [hc_v3 _ _ (by omega)]; exact d0
              replace h0 : v3.frozen? ⟨w.heap.size + 1 + 1, 0, none⟩ = false := by rw [hf_v3 _ _ (by omega)]; exact h0
              replace c1 : v3.cell? ⟨w.heap.size + 1, 1, none⟩ = some (.int .i64 n0) := by rw [hc_v3 _ _ (by omega)]; exact c1
              replace f1 : v3.frozen? ⟨w.heap.size + 1, 1, none⟩ = false := by rw [hf_v3 _ _ (by omega)]; exact f1
              replace d1 : v3.cell? ⟨w.heap.size + 1 + 1, 1, none⟩ = some (.int .i64 0) := by rw [hc_v3 _ _ (by omega)]; exact d1
              replace h1 : v3.frozen? ⟨w.heap.size + 1 + 1, 1, none⟩ = false := by rw [hf_v3 _ _ (by omega)]; exact h1
              replace c2 : v3.cell? ⟨w.heap.size + 1, 2, none⟩ = some (.int .i64 0) := by rw [hc_v3 _ _ (by omega)]; exact c2
              replace f2 : v3.frozen? ⟨w.heap.size + 1, 2, none⟩ = false := by rw [hf_v3 _ _ (by omega)]; exact f2
              replace d2 : v3.cell? ⟨w.heap.size + 1 + 1, 2, none⟩ = some (.int .i64 0) := by rw [hc_v3 _ _ (by omega)]; exact d2
              replace h2 : v3.frozen? ⟨w.heap.size + 1 + 1, 2, none⟩ = false := by rw [hf_v3 _ _ (by omega)]; exact h2
              replace c3 : v3.cell? ⟨w.heap.size + 1, 3, none⟩ = some (.int .i64 n2) := by rw [hc_v3 _ _ (by omega)]; exact c3
              replace f3 : v3.frozen? ⟨w.heap.size + 1, 3, none⟩ = false := by rw [hf_v3 _ _ (by omega)]; exact f3
              replace d3 : v3.cell? ⟨w.heap.size + 1 + 1, 3, none⟩ = some (.int .i64 0) := by rw [hc_v3 _ _ (by omega)]; exact d3
              replace h3 : v3.frozen? ⟨w.heap.size + 1 + 1, 3, none⟩ = false := by rw [hf_v3 _ _ (by omega)]; exact h3
              replace c4 : v3.cell? ⟨w.heap.size + 1, 4, none⟩ = some (.int .i64 0) := by rw [hc_v3 _ _ (by omega)]; exact c4
              replace f4 : v3.frozen? ⟨w.heap.size + 1, 4, none⟩ = false := by rw [hf_v3 _ _ (by omega)]; exact f4
              replace d4 : v3.cell? ⟨w.heap.size + 1 + 1, 4, none⟩ = some (.int .i64 0) := by rw [hc_v3 _ _ (by omega)]; exact d4
              replace h4 : v3.frozen? ⟨w.heap.size + 1 + 1, 4, none⟩ = false := by rw [hf_v3 _ _ (by omega)]; exact h4
              replace c5 : v3.cell? ⟨w.heap.size + 1, 5, none⟩ = some (.int .i64 0) := by rw [hc_v3 _ _ (by omega)]; exact c5
              replace f5 : v3.frozen? ⟨w.heap.size + 1, 5, none⟩ = false := by rw [hf_v3 _ _ (by omega)]; exact f5
              replace d5 : v3.cell? ⟨w.heap.size + 1 + 1, 5, none⟩ = some (.int .i64 0) := by rw [hc_v3 _ _ (by omega)]; exact d5
              replace h5 : v3.frozen? ⟨w.heap.size + 1 + 1, 5, none⟩ = false := by rw [hf_v3 _ _ (by omega)]; exact h5
              have hb_v3 : Below w.heap.size w v3 := hb_W1.trans (hx_v3.mono (by omega))
              have l_v3 : w.heap.size + 1 + 1 < v3.heap.size := by omega
              clear hw_v3 hc_v3 hf_v3 hx_v3
              rw [rounds_succ]
              rcases Decidable.em (L2' = 0) with hz | hz
              · have e9 : ((L2' : Int) == 0) = true := by simp; omega
                go_wp2_with fail
                refine bodyPost_ret (v := .tuple #[.agg #[.int .i64 k, .int .i64 n0, .int .i64 0, .int .i64 n2, .int .i64 0, .int .i64 0], .bool true]) (by simp [results, Tryz.results97, go_sem, *]) rfl ⟨⟨#[.int .i64 k, .int .i64 n0, .int .i64 0, .int .i64 n2, .int .i64 0, .int .i64 0], by simp; omega, fun _ => rfl, _, _, _, _, _, _, rfl⟩, ((((((hb_v3.setCell (by dsimp only; omega) _).setCell (by dsimp only; omega) _).setCell (by dsimp only; omega) _).setCell (by dsimp only; omega) _).setCell (by dsimp only; omega) _).setCell (by dsimp only; omega) _)⟩
              · have e9 : ((L2' : Int) == 0) = false := by simp; omega
                go_wp2_with fail
                refine bodyPost_ret (v := .tuple #[.agg #[.int .i64 k, .int .i64 n0, .int .i64 0, .int .i64 n2, .int .i64 0, .int .i64 0], .bool false]) (by simp [results, Tryz.results97, go_sem, *]) rfl ⟨⟨#[.int .i64 k, .int .i64 n0, .int .i64 0, .int .i64 n2, .int .i64 0, .int .i64 0], by simp; omega, fun h => (by simp at h; omega), _, _, _, _, _, _, rfl⟩, ((((((hb_v3.setCell (by dsimp only; omega) _).setCell (by dsimp only; omega) _).setCell (by dsimp only; omega) _).setCell (by dsimp only; omega) _).setCell (by dsimp only; omega) _).setCell (by dsimp only; omega) _)⟩)
            have hL1 : 1 ≤ L1' := by omega
            have hL2 : (1 : Int) ≤ (L1' : Int) := by omega
            go_region
            all_goals go_step
            all_goals refine hK _ (L1' - 1) _ _ _ _ (by omega) ?_ ⟨?_, ?_, ?_, ?_, ?_, ?_⟩ ⟨?_, ?_, ?_, ?_, ?_, ?_, ?_, ?_, ?_, ?_, ?_, ?_, ?_, ?_, ?_, ?_, ?_, ?_⟩ ?_ ?_
            all_goals first | (intro h; rw [if_neg (by omega)]; done) | (simp [go_sem, *]; done) | exact ((((((hb_wc.setCell (by dsimp only; omega) _).setCell (by dsimp only; omega) _).setCell (by dsimp only; omega) _).setCell (by dsimp only; omega) _).setCell (by dsimp only; omega) _).setCell (by dsimp only; omega) _).drew | (simp [World.setCell]; omega))
      have hL1 : 1 ≤ L := by omega
      have hL2 : (1 : Int) ≤ (L : Int) := by omega
      go_region
      all_goals go_step
      all_goals refine hK _ (L - 1) _ _ _ _ (by omega) ?_ ⟨?_, ?_, ?_, ?_, ?_, ?_⟩ ⟨?_, ?_, ?_, ?_, ?_, ?_, ?_, ?_, ?_, ?_, ?_, ?_, ?_, ?_, ?_, ?_, ?_, ?_⟩ ?_ ?_
      all_goals first | (intro h; rw [if_neg (by omega)]; done) | (simp [go_sem, *]; done) | exact ((((((hb_wc.setCell (by dsimp only; omega) _).setCell (by dsimp only; omega) _).setCell (by dsimp only; omega) _).setCell (by dsimp only; omega) _).setCell (by dsimp only; omega) _).setCell (by dsimp only; omega) _).drew | (simp [World.setCell]; omega)
end Go.Proofs.YtekmjgkjpdhedaaGreatDoor
