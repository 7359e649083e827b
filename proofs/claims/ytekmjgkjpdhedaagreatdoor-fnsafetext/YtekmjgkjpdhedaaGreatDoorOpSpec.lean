/-
  spec.OpOk over this translation: at every step it answers opB; nothing that was there turns.
-/
import Derived.Test.YtekmjgkjpdhedaaGreatDoorOpForm
namespace Go.Proofs.YtekmjgkjpdhedaaGreatDoor
open Go.ChangeShapes Go.WideShapes Go.ChangeAt Go.RowKit Go.Joins

set_option maxHeartbeats 8000000 in
theorem specOpOk_else (k r s t vk vn : Int) (w : World) (h1 : 1 ≤ k) (h2 : k ≤ 14) (h8 : (k == 8) = false) (h13 : (k == 13) = false) :
    Calls Tryz.prog 40 #[.agg #[.int .i64 k, .int .i64 r, .int .i64 s, .int .i64 t, .int .i64 vk, .int .i64 vn]] w fun e w' => e = .returned (.bool (opB k r s t vk vn)) ∧ Below w.heap.size w w' := by
  have hk : inB k 1 14 = true := inB_iff.2 ⟨h1, h2⟩
  go_enter Tryz.func40, Tryz.ntmps40
  go_wp2_with fail
  refine (form_any _ _ h1 h2).mono ?_
  rintro e w1 ⟨rfl, rfl⟩
  go_wp2_with fail
  refine (specOk_any _ _ _).mono ?_
  rintro e w3 ⟨rfl, hb3⟩
  obtain ⟨hc3, hf3⟩ := bcell hb3
  have hz3 := hb3.size
  simp at hz3
  have c0 : w3.cell? ⟨w.heap.size, 0, none⟩ = some (.int .i64 k) := by rw [hc3 _ _ (by simp; omega)]; simp [go_sem]
  have c1 : w3.cell? ⟨w.heap.size, 1, none⟩ = some (.int .i64 r) := by rw [hc3 _ _ (by simp; omega)]; simp [go_sem]
  have c2 : w3.cell? ⟨w.heap.size, 2, none⟩ = some (.int .i64 s) := by rw [hc3 _ _ (by simp; omega)]; simp [go_sem]
  have c3 : w3.cell? ⟨w.heap.size, 3, none⟩ = some (.int .i64 t) := by rw [hc3 _ _ (by simp; omega)]; simp [go_sem]
  have c4 : w3.cell? ⟨w.heap.size, 4, none⟩ = some (.int .i64 vk) := by rw [hc3 _ _ (by simp; omega)]; simp [go_sem]
  have c5 : w3.cell? ⟨w.heap.size, 5, none⟩ = some (.int .i64 vn) := by rw [hc3 _ _ (by simp; omega)]; simp [go_sem]
  have d0 : w3.cell? ⟨w.heap.size + 1, 0, none⟩ = some (.bool (fR k)) := by rw [hc3 _ _ (by simp)]; simp [go_sem]
  have d1 : w3.cell? ⟨w.heap.size + 1, 1, none⟩ = some (.bool (fS k)) := by rw [hc3 _ _ (by simp)]; simp [go_sem]
  have d2 : w3.cell? ⟨w.heap.size + 1, 2, none⟩ = some (.bool (fT k)) := by rw [hc3 _ _ (by simp)]; simp [go_sem]
  have d3 : w3.cell? ⟨w.heap.size + 1, 3, none⟩ = some (.bool (fV k)) := by rw [hc3 _ _ (by simp)]; simp [go_sem]
  have l0 : w.heap.size < w3.heap.size := by omega
  have l1 : w.heap.size + 1 < w3.heap.size := by omega
  have hB3 : Below w.heap.size w w3 := (((Below.refl _ _).alloc (Nat.le_refl _) _).alloc (by simp) _).trans (hb3.mono (by simp; omega))
  clear hc3 hf3 hb3
  cases hv : okB vk vn with
  | false =>
    go_wp2_with fail
    go_ret
    exact ⟨by simp [opB, hv], hB3⟩
  | true =>
    go_wp2_with fail
    refine (slot_any _ _).mono ?_
    rintro e wx ⟨rfl, rfl⟩
    cases hr : inB r 0 3 with
    | false =>
      have r0 : (r == 0) = false := by
        rw [beq_eq_false_iff_ne]; rintro rfl; exact absurd hr (by decide)
      go_wp2_with fail
      go_ret
      exact ⟨by simp [opB, hk, hv, h8, h13, hr, r0], hB3⟩
    | true =>
      cases hfr : fR k with
      | true =>
        go_wp2_with fail
        refine (slot_any _ _).mono ?_
        rintro e wx ⟨rfl, rfl⟩
        cases hs : inB s 0 3 with
        | false =>
          have s0 : (s == 0) = false := by
            rw [beq_eq_false_iff_ne]; rintro rfl; exact absurd hs (by decide)
          go_wp2_with fail
          go_ret
          exact ⟨by simp [opB, hk, hv, h8, h13, hr, hfr, hs, s0], hB3⟩
        | true =>
          cases hfs : fS k with
          | true =>
            go_wp2_with fail
            refine (to_any _ _).mono ?_
            rintro e wx ⟨rfl, rfl⟩
            cases ht : inB t 0 15 with
            | false =>
              have t0 : (t == 0) = false := by
                rw [beq_eq_false_iff_ne]; rintro rfl; exact absurd ht (by decide)
              go_wp2_with fail
              go_ret
              exact ⟨by simp [opB, hk, hv, h8, h13, hr, hfr, hs, hfs, ht, t0], hB3⟩
            | true =>
              cases hft : fT k with
              | true =>
                cases hfv : fV k with
                | true =>
                  go_wp2_with fail
                  go_ret
                  exact ⟨by simp [opB, hk, hv, h8, h13, hr, hfr, hs, hfs, ht, hft, hfv], hB3⟩
                | false =>
                  cases hv0 : (vk == 0) with
                  | false =>
                    go_wp2_with fail
                    go_ret
                    exact ⟨by simp [opB, hk, hv, h8, h13, hr, hfr, hs, hfs, ht, hft, hfv, hv0], hB3⟩
                  | true =>
                    cases hn0 : (vn == 0) with
                    | false =>
                      go_wp2_with fail
                      go_ret
                      exact ⟨by simp [opB, hk, hv, h8, h13, hr, hfr, hs, hfs, ht, hft, hfv, hv0, hn0], hB3⟩
                    | true =>
                      go_wp2_with fail
                      go_ret
                      exact ⟨by simp [opB, hk, hv, h8, h13, hr, hfr, hs, hfs, ht, hft, hfv, hv0, hn0], hB3⟩
              | false =>
                cases t0 : (t == 0) with
                | false =>
                  go_wp2_with fail
                  go_ret
                  exact ⟨by simp [opB, hk, hv, h8, h13, hr, hfr, hs, hfs, ht, hft, t0], hB3⟩
                | true =>
                  cases hfv : fV k with
                  | true =>
                    go_wp2_with fail
                    go_ret
                    exact ⟨by simp [opB, hk, hv, h8, h13, hr, hfr, hs, hfs, ht, hft, t0, hfv], hB3⟩
                  | false =>
                    cases hv0 : (vk == 0) with
                    | false =>
                      go_wp2_with fail
                      go_ret
                      exact ⟨by simp [opB, hk, hv, h8, h13, hr, hfr, hs, hfs, ht, hft, t0, hfv, hv0], hB3⟩
                    | true =>
                      cases hn0 : (vn == 0) with
                      | false =>
                        go_wp2_with fail
                        go_ret
                        exact ⟨by simp [opB, hk, hv, h8, h13, hr, hfr, hs, hfs, ht, hft, t0, hfv, hv0, hn0], hB3⟩
                      | true =>
                        go_wp2_with fail
                        go_ret
                        exact ⟨by simp [opB, hk, hv, h8, h13, hr, hfr, hs, hfs, ht, hft, t0, hfv, hv0, hn0], hB3⟩
          | false =>
            cases s0 : (s == 0) with
            | false =>
              go_wp2_with fail
              go_ret
              exact ⟨by simp [opB, hk, hv, h8, h13, hr, hfr, hs, hfs, s0], hB3⟩
            | true =>
              go_wp2_with fail
              refine (to_any _ _).mono ?_
              rintro e wx ⟨rfl, rfl⟩
              cases ht : inB t 0 15 with
              | false =>
                have t0 : (t == 0) = false := by
                  rw [beq_eq_false_iff_ne]; rintro rfl; exact absurd ht (by decide)
                go_wp2_with fail
                go_ret
                exact ⟨by simp [opB, hk, hv, h8, h13, hr, hfr, hs, hfs, s0, ht, t0], hB3⟩
              | true =>
                cases hft : fT k with
                | true =>
                  cases hfv : fV k with
                  | true =>
                    go_wp2_with fail
                    go_ret
                    exact ⟨by simp [opB, hk, hv, h8, h13, hr, hfr, hs, hfs, s0, ht, hft, hfv], hB3⟩
                  | false =>
                    cases hv0 : (vk == 0) with
                    | false =>
                      go_wp2_with fail
                      go_ret
                      exact ⟨by simp [opB, hk, hv, h8, h13, hr, hfr, hs, hfs, s0, ht, hft, hfv, hv0], hB3⟩
                    | true =>
                      cases hn0 : (vn == 0) with
                      | false =>
                        go_wp2_with fail
                        go_ret
                        exact ⟨by simp [opB, hk, hv, h8, h13, hr, hfr, hs, hfs, s0, ht, hft, hfv, hv0, hn0], hB3⟩
                      | true =>
                        go_wp2_with fail
                        go_ret
                        exact ⟨by simp [opB, hk, hv, h8, h13, hr, hfr, hs, hfs, s0, ht, hft, hfv, hv0, hn0], hB3⟩
                | false =>
                  cases t0 : (t == 0) with
                  | false =>
                    go_wp2_with fail
                    go_ret
                    exact ⟨by simp [opB, hk, hv, h8, h13, hr, hfr, hs, hfs, s0, ht, hft, t0], hB3⟩
                  | true =>
                    cases hfv : fV k with
                    | true =>
                      go_wp2_with fail
                      go_ret
                      exact ⟨by simp [opB, hk, hv, h8, h13, hr, hfr, hs, hfs, s0, ht, hft, t0, hfv], hB3⟩
                    | false =>
                      cases hv0 : (vk == 0) with
                      | false =>
                        go_wp2_with fail
                        go_ret
                        exact ⟨by simp [opB, hk, hv, h8, h13, hr, hfr, hs, hfs, s0, ht, hft, t0, hfv, hv0], hB3⟩
                      | true =>
                        cases hn0 : (vn == 0) with
                        | false =>
                          go_wp2_with fail
                          go_ret
                          exact ⟨by simp [opB, hk, hv, h8, h13, hr, hfr, hs, hfs, s0, ht, hft, t0, hfv, hv0, hn0], hB3⟩
                        | true =>
                          go_wp2_with fail
                          go_ret
                          exact ⟨by simp [opB, hk, hv, h8, h13, hr, hfr, hs, hfs, s0, ht, hft, t0, hfv, hv0, hn0], hB3⟩
      | false =>
        cases r0 : (r == 0) with
        | false =>
          go_wp2_with fail
          go_ret
          exact ⟨by simp [opB, hk, hv, h8, h13, hr, hfr, r0], hB3⟩
        | true =>
          go_wp2_with fail
          refine (slot_any _ _).mono ?_
          rintro e wx ⟨rfl, rfl⟩
          cases hs : inB s 0 3 with
          | false =>
            have s0 : (s == 0) = false := by
              rw [beq_eq_false_iff_ne]; rintro rfl; exact absurd hs (by decide)
            go_wp2_with fail
            go_ret
            exact ⟨by simp [opB, hk, hv, h8, h13, hr, hfr, r0, hs, s0], hB3⟩
          | true =>
            cases hfs : fS k with
            | true =>
              go_wp2_with fail
              refine (to_any _ _).mono ?_
              rintro e wx ⟨rfl, rfl⟩
              cases ht : inB t 0 15 with
              | false =>
                have t0 : (t == 0) = false := by
                  rw [beq_eq_false_iff_ne]; rintro rfl; exact absurd ht (by decide)
                go_wp2_with fail
                go_ret
                exact ⟨by simp [opB, hk, hv, h8, h13, hr, hfr, r0, hs, hfs, ht, t0], hB3⟩
              | true =>
                cases hft : fT k with
                | true =>
                  cases hfv : fV k with
                  | true =>
                    go_wp2_with fail
                    go_ret
                    exact ⟨by simp [opB, hk, hv, h8, h13, hr, hfr, r0, hs, hfs, ht, hft, hfv], hB3⟩
                  | false =>
                    cases hv0 : (vk == 0) with
                    | false =>
                      go_wp2_with fail
                      go_ret
                      exact ⟨by simp [opB, hk, hv, h8, h13, hr, hfr, r0, hs, hfs, ht, hft, hfv, hv0], hB3⟩
                    | true =>
                      cases hn0 : (vn == 0) with
                      | false =>
                        go_wp2_with fail
                        go_ret
                        exact ⟨by simp [opB, hk, hv, h8, h13, hr, hfr, r0, hs, hfs, ht, hft, hfv, hv0, hn0], hB3⟩
                      | true =>
                        go_wp2_with fail
                        go_ret
                        exact ⟨by simp [opB, hk, hv, h8, h13, hr, hfr, r0, hs, hfs, ht, hft, hfv, hv0, hn0], hB3⟩
                | false =>
                  cases t0 : (t == 0) with
                  | false =>
                    go_wp2_with fail
                    go_ret
                    exact ⟨by simp [opB, hk, hv, h8, h13, hr, hfr, r0, hs, hfs, ht, hft, t0], hB3⟩
                  | true =>
                    cases hfv : fV k with
                    | true =>
                      go_wp2_with fail
                      go_ret
                      exact ⟨by simp [opB, hk, hv, h8, h13, hr, hfr, r0, hs, hfs, ht, hft, t0, hfv], hB3⟩
                    | false =>
                      cases hv0 : (vk == 0) with
                      | false =>
                        go_wp2_with fail
                        go_ret
                        exact ⟨by simp [opB, hk, hv, h8, h13, hr, hfr, r0, hs, hfs, ht, hft, t0, hfv, hv0], hB3⟩
                      | true =>
                        cases hn0 : (vn == 0) with
                        | false =>
                          go_wp2_with fail
                          go_ret
                          exact ⟨by simp [opB, hk, hv, h8, h13, hr, hfr, r0, hs, hfs, ht, hft, t0, hfv, hv0, hn0], hB3⟩
                        | true =>
                          go_wp2_with fail
                          go_ret
                          exact ⟨by simp [opB, hk, hv, h8, h13, hr, hfr, r0, hs, hfs, ht, hft, t0, hfv, hv0, hn0], hB3⟩
            | false =>
              cases s0 : (s == 0) with
              | false =>
                go_wp2_with fail
                go_ret
                exact ⟨by simp [opB, hk, hv, h8, h13, hr, hfr, r0, hs, hfs, s0], hB3⟩
              | true =>
                go_wp2_with fail
                refine (to_any _ _).mono ?_
                rintro e wx ⟨rfl, rfl⟩
                cases ht : inB t 0 15 with
                | false =>
                  have t0 : (t == 0) = false := by
                    rw [beq_eq_false_iff_ne]; rintro rfl; exact absurd ht (by decide)
                  go_wp2_with fail
                  go_ret
                  exact ⟨by simp [opB, hk, hv, h8, h13, hr, hfr, r0, hs, hfs, s0, ht, t0], hB3⟩
                | true =>
                  cases hft : fT k with
                  | true =>
                    cases hfv : fV k with
                    | true =>
                      go_wp2_with fail
                      go_ret
                      exact ⟨by simp [opB, hk, hv, h8, h13, hr, hfr, r0, hs, hfs, s0, ht, hft, hfv], hB3⟩
                    | false =>
                      cases hv0 : (vk == 0) with
                      | false =>
                        go_wp2_with fail
                        go_ret
                        exact ⟨by simp [opB, hk, hv, h8, h13, hr, hfr, r0, hs, hfs, s0, ht, hft, hfv, hv0], hB3⟩
                      | true =>
                        cases hn0 : (vn == 0) with
                        | false =>
                          go_wp2_with fail
                          go_ret
                          exact ⟨by simp [opB, hk, hv, h8, h13, hr, hfr, r0, hs, hfs, s0, ht, hft, hfv, hv0, hn0], hB3⟩
                        | true =>
                          go_wp2_with fail
                          go_ret
                          exact ⟨by simp [opB, hk, hv, h8, h13, hr, hfr, r0, hs, hfs, s0, ht, hft, hfv, hv0, hn0], hB3⟩
                  | false =>
                    cases t0 : (t == 0) with
                    | false =>
                      go_wp2_with fail
                      go_ret
                      exact ⟨by simp [opB, hk, hv, h8, h13, hr, hfr, r0, hs, hfs, s0, ht, hft, t0], hB3⟩
                    | true =>
                      cases hfv : fV k with
                      | true =>
                        go_wp2_with fail
                        go_ret
                        exact ⟨by simp [opB, hk, hv, h8, h13, hr, hfr, r0, hs, hfs, s0, ht, hft, t0, hfv], hB3⟩
                      | false =>
                        cases hv0 : (vk == 0) with
                        | false =>
                          go_wp2_with fail
                          go_ret
                          exact ⟨by simp [opB, hk, hv, h8, h13, hr, hfr, r0, hs, hfs, s0, ht, hft, t0, hfv, hv0], hB3⟩
                        | true =>
                          cases hn0 : (vn == 0) with
                          | false =>
                            go_wp2_with fail
                            go_ret
                            exact ⟨by simp [opB, hk, hv, h8, h13, hr, hfr, r0, hs, hfs, s0, ht, hft, t0, hfv, hv0, hn0], hB3⟩
                          | true =>
                            go_wp2_with fail
                            go_ret
                            exact ⟨by simp [opB, hk, hv, h8, h13, hr, hfr, r0, hs, hfs, s0, ht, hft, t0, hfv, hv0, hn0], hB3⟩

set_option maxHeartbeats 8000000 in
theorem specOpOk_after (r s t vk vn : Int) (w : World) :
    Calls Tryz.prog 40 #[.agg #[.int .i64 8, .int .i64 r, .int .i64 s, .int .i64 t, .int .i64 vk, .int .i64 vn]] w fun e w' => e = .returned (.bool (opB 8 r s t vk vn)) ∧ Below w.heap.size w w' := by
  have hk : inB 8 1 14 = true := rfl
  have hfR : fR 8 = true := rfl
  have hfS : fS 8 = true := rfl
  have hfT : fT 8 = true := rfl
  have hfV : fV 8 = true := rfl
  go_enter Tryz.func40, Tryz.ntmps40
  go_wp2_with fail
  refine (form_any _ _ (by omega) (by omega)).mono ?_
  rintro e w1 ⟨rfl, rfl⟩
  go_wp2_with fail
  refine (specOk_any _ _ _).mono ?_
  rintro e w3 ⟨rfl, hb3⟩
  obtain ⟨hc3, hf3⟩ := bcell hb3
  have hz3 := hb3.size
  simp at hz3
  have c0 : w3.cell? ⟨w.heap.size, 0, none⟩ = some (.int .i64 8) := by rw [hc3 _ _ (by simp; omega)]; simp [go_sem]
  have c1 : w3.cell? ⟨w.heap.size, 1, none⟩ = some (.int .i64 r) := by rw [hc3 _ _ (by simp; omega)]; simp [go_sem]
  have c2 : w3.cell? ⟨w.heap.size, 2, none⟩ = some (.int .i64 s) := by rw [hc3 _ _ (by simp; omega)]; simp [go_sem]
  have c3 : w3.cell? ⟨w.heap.size, 3, none⟩ = some (.int .i64 t) := by rw [hc3 _ _ (by simp; omega)]; simp [go_sem]
  have c4 : w3.cell? ⟨w.heap.size, 4, none⟩ = some (.int .i64 vk) := by rw [hc3 _ _ (by simp; omega)]; simp [go_sem]
  have c5 : w3.cell? ⟨w.heap.size, 5, none⟩ = some (.int .i64 vn) := by rw [hc3 _ _ (by simp; omega)]; simp [go_sem]
  have d0 : w3.cell? ⟨w.heap.size + 1, 0, none⟩ = some (.bool (fR 8)) := by rw [hc3 _ _ (by simp)]; simp [go_sem]
  have d1 : w3.cell? ⟨w.heap.size + 1, 1, none⟩ = some (.bool (fS 8)) := by rw [hc3 _ _ (by simp)]; simp [go_sem]
  have d2 : w3.cell? ⟨w.heap.size + 1, 2, none⟩ = some (.bool (fT 8)) := by rw [hc3 _ _ (by simp)]; simp [go_sem]
  have d3 : w3.cell? ⟨w.heap.size + 1, 3, none⟩ = some (.bool (fV 8)) := by rw [hc3 _ _ (by simp)]; simp [go_sem]
  have l0 : w.heap.size < w3.heap.size := by omega
  have l1 : w.heap.size + 1 < w3.heap.size := by omega
  have hB3 : Below w.heap.size w w3 := (((Below.refl _ _).alloc (Nat.le_refl _) _).alloc (by simp) _).trans (hb3.mono (by simp; omega))
  clear hc3 hf3 hb3
  cases hv : okB vk vn with
  | false =>
    go_wp2_with fail
    go_ret
    exact ⟨by simp [opB, hv], hB3⟩
  | true =>
    cases hvk : (vk == 1) with
    | false =>
      have hvk' : (vk != 1) = true := by rw [bne, hvk]; rfl
      go_wp2_with fail
      go_ret
      exact ⟨by simp [opB, hk, hv, hvk], hB3⟩
    | true =>
      have hvk' : (vk != 1) = false := by rw [bne, hvk]; rfl
      by_cases hvn : vn < 1
      · have hvn' : decide (1 ≤ vn) = false := by simp; omega
        go_wp2_with fail
        go_ret
        exact ⟨by simp [opB, hk, hv, hvk, hvn'], hB3⟩
      · have hvn' : decide (1 ≤ vn) = true := by simp; omega
        go_wp2_with fail
        refine (slot_any _ _).mono ?_
        rintro e wx ⟨rfl, rfl⟩
        cases hr : inB r 0 3 with
        | false =>
          have r0 : (r == 0) = false := by
            rw [beq_eq_false_iff_ne]; rintro rfl; exact absurd hr (by decide)
          go_wp2_with fail
          go_ret
          exact ⟨by simp [opB, hk, hv, hvk, hvn', hr, r0], hB3⟩
        | true =>
          go_wp2_with fail
          refine (slot_any _ _).mono ?_
          rintro e wx ⟨rfl, rfl⟩
          cases hs : inB s 0 3 with
          | false =>
            have s0 : (s == 0) = false := by
              rw [beq_eq_false_iff_ne]; rintro rfl; exact absurd hs (by decide)
            go_wp2_with fail
            go_ret
            exact ⟨by simp [opB, hk, hv, hvk, hvn', hr, hfR, hs, s0], hB3⟩
          | true =>
            go_wp2_with fail
            refine (to_any _ _).mono ?_
            rintro e wx ⟨rfl, rfl⟩
            cases ht : inB t 0 15 with
            | false =>
              have t0 : (t == 0) = false := by
                rw [beq_eq_false_iff_ne]; rintro rfl; exact absurd ht (by decide)
              go_wp2_with fail
              go_ret
              exact ⟨by simp [opB, hk, hv, hvk, hvn', hr, hfR, hs, hfS, ht, t0], hB3⟩
            | true =>
              go_wp2_with fail
              go_ret
              exact ⟨by simp [opB, hk, hv, hvk, hvn', hr, hfR, hs, hfS, ht, hfT, hfV], hB3⟩

set_option maxHeartbeats 8000000 in
theorem specOpOk_trap (r s t vk vn : Int) (w : World) :
    Calls Tryz.prog 40 #[.agg #[.int .i64 13, .int .i64 r, .int .i64 s, .int .i64 t, .int .i64 vk, .int .i64 vn]] w fun e w' => e = .returned (.bool (opB 13 r s t vk vn)) ∧ Below w.heap.size w w' := by
  have hk : inB 13 1 14 = true := rfl
  have hfR : fR 13 = false := rfl
  have hfS : fS 13 = false := rfl
  have hfT : fT 13 = false := rfl
  have hfV : fV 13 = true := rfl
  go_enter Tryz.func40, Tryz.ntmps40
  go_wp2_with fail
  refine (form_any _ _ (by omega) (by omega)).mono ?_
  rintro e w1 ⟨rfl, rfl⟩
  go_wp2_with fail
  refine (specOk_any _ _ _).mono ?_
  rintro e w3 ⟨rfl, hb3⟩
  obtain ⟨hc3, hf3⟩ := bcell hb3
  have hz3 := hb3.size
  simp at hz3
  have c0 : w3.cell? ⟨w.heap.size, 0, none⟩ = some (.int .i64 13) := by rw [hc3 _ _ (by simp; omega)]; simp [go_sem]
  have c1 : w3.cell? ⟨w.heap.size, 1, none⟩ = some (.int .i64 r) := by rw [hc3 _ _ (by simp; omega)]; simp [go_sem]
  have c2 : w3.cell? ⟨w.heap.size, 2, none⟩ = some (.int .i64 s) := by rw [hc3 _ _ (by simp; omega)]; simp [go_sem]
  have c3 : w3.cell? ⟨w.heap.size, 3, none⟩ = some (.int .i64 t) := by rw [hc3 _ _ (by simp; omega)]; simp [go_sem]
  have c4 : w3.cell? ⟨w.heap.size, 4, none⟩ = some (.int .i64 vk) := by rw [hc3 _ _ (by simp; omega)]; simp [go_sem]
  have c5 : w3.cell? ⟨w.heap.size, 5, none⟩ = some (.int .i64 vn) := by rw [hc3 _ _ (by simp; omega)]; simp [go_sem]
  have d0 : w3.cell? ⟨w.heap.size + 1, 0, none⟩ = some (.bool (fR 13)) := by rw [hc3 _ _ (by simp)]; simp [go_sem]
  have d1 : w3.cell? ⟨w.heap.size + 1, 1, none⟩ = some (.bool (fS 13)) := by rw [hc3 _ _ (by simp)]; simp [go_sem]
  have d2 : w3.cell? ⟨w.heap.size + 1, 2, none⟩ = some (.bool (fT 13)) := by rw [hc3 _ _ (by simp)]; simp [go_sem]
  have d3 : w3.cell? ⟨w.heap.size + 1, 3, none⟩ = some (.bool (fV 13)) := by rw [hc3 _ _ (by simp)]; simp [go_sem]
  have l0 : w.heap.size < w3.heap.size := by omega
  have l1 : w.heap.size + 1 < w3.heap.size := by omega
  have hB3 : Below w.heap.size w w3 := (((Below.refl _ _).alloc (Nat.le_refl _) _).alloc (by simp) _).trans (hb3.mono (by simp; omega))
  clear hc3 hf3 hb3
  cases hv : okB vk vn with
  | false =>
    go_wp2_with fail
    go_ret
    exact ⟨by simp [opB, hv], hB3⟩
  | true =>
    cases hvk : (vk == 1) with
    | false =>
      have hvk' : (vk != 1) = true := by rw [bne, hvk]; rfl
      go_wp2_with fail
      go_ret
      exact ⟨by simp [opB, hk, hv, hvk], hB3⟩
    | true =>
      have hvk' : (vk != 1) = false := by rw [bne, hvk]; rfl
      go_wp2_with fail
      refine (l6In_any _ _ _ _).mono ?_
      rintro e wx ⟨rfl, rfl⟩
      cases hvn : (decide (0 ≤ vn) && decide (vn ≤ 1)) with
      | false =>
        have hvn' : inB vn 0 1 = false := hvn
        go_wp2_with fail
        go_ret
        exact ⟨by simp [opB, hk, hv, hvk, hvn'], hB3⟩
      | true =>
        have hvn' : inB vn 0 1 = true := hvn
        go_wp2_with fail
        refine (slot_any _ _).mono ?_
        rintro e wx ⟨rfl, rfl⟩
        cases hr : inB r 0 3 with
        | false =>
          have r0 : (r == 0) = false := by
            rw [beq_eq_false_iff_ne]; rintro rfl; exact absurd hr (by decide)
          go_wp2_with fail
          go_ret
          exact ⟨by simp [opB, hk, hv, hvk, hvn', hr, r0], hB3⟩
        | true =>
          cases r0 : (r == 0) with
          | false =>
            go_wp2_with fail
            go_ret
            exact ⟨by simp [opB, hk, hv, hvk, hvn', hr, hfR, r0], hB3⟩
          | true =>
            go_wp2_with fail
            refine (slot_any _ _).mono ?_
            rintro e wx ⟨rfl, rfl⟩
            cases hs : inB s 0 3 with
            | false =>
              have s0 : (s == 0) = false := by
                rw [beq_eq_false_iff_ne]; rintro rfl; exact absurd hs (by decide)
              go_wp2_with fail
              go_ret
              exact ⟨by simp [opB, hk, hv, hvk, hvn', hr, hfR, r0, hs, s0], hB3⟩
            | true =>
              cases s0 : (s == 0) with
              | false =>
                go_wp2_with fail
                go_ret
                exact ⟨by simp [opB, hk, hv, hvk, hvn', hr, hfR, r0, hs, hfS, s0], hB3⟩
              | true =>
                go_wp2_with fail
                refine (to_any _ _).mono ?_
                rintro e wx ⟨rfl, rfl⟩
                cases ht : inB t 0 15 with
                | false =>
                  have t0 : (t == 0) = false := by
                    rw [beq_eq_false_iff_ne]; rintro rfl; exact absurd ht (by decide)
                  go_wp2_with fail
                  go_ret
                  exact ⟨by simp [opB, hk, hv, hvk, hvn', hr, hfR, r0, hs, hfS, s0, ht, t0], hB3⟩
                | true =>
                  cases t0 : (t == 0) with
                  | false =>
                    go_wp2_with fail
                    go_ret
                    exact ⟨by simp [opB, hk, hv, hvk, hvn', hr, hfR, r0, hs, hfS, s0, ht, hfT, t0], hB3⟩
                  | true =>
                    go_wp2_with fail
                    go_ret
                    exact ⟨by simp [opB, hk, hv, hvk, hvn', hr, hfR, r0, hs, hfS, s0, ht, hfT, t0, hfV], hB3⟩

set_option maxHeartbeats 400000 in
theorem specOpOk_any (k r s t vk vn : Int) (w : World) :
    Calls Tryz.prog 40 #[.agg #[.int .i64 k, .int .i64 r, .int .i64 s, .int .i64 t, .int .i64 vk, .int .i64 vn]] w fun e w' => e = .returned (.bool (opB k r s t vk vn)) ∧ Below w.heap.size w w' := by
  by_cases h : 1 ≤ k ∧ k ≤ 14
  · cases h8 : (k == 8) with
    | true => obtain rfl := beq_iff_eq.1 h8; exact specOpOk_after r s t vk vn w
    | false =>
      cases h13 : (k == 13) with
      | true => obtain rfl := beq_iff_eq.1 h13; exact specOpOk_trap r s t vk vn w
      | false => exact specOpOk_else k r s t vk vn w h.1 h.2 h8 h13
  · have hk : inB k 1 14 = false := by rw [Bool.eq_false_iff]; exact fun e => h (inB_iff.1 e)
    go_enter Tryz.func40, Tryz.ntmps40
    go_wp2_with fail
    refine (form_none _ _ (by omega)).mono ?_
    rintro e w1 ⟨⟨a, rfl⟩, hb1⟩
    go_wp2_with fail
    go_ret
    exact ⟨by simp [opB, hk], ((Below.refl _ _).alloc (Nat.le_refl _) _).trans (hb1.mono (by simp))⟩
end Go.Proofs.YtekmjgkjpdhedaaGreatDoor
