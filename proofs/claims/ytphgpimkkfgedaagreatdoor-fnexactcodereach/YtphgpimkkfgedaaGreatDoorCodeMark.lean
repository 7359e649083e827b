/-
  What laws.markOpS answers over this translation, on a row of steps: a number above 0; it writes into that row alone.
-/
import Derived.Test.YtphgpimkkfgedaaGreatDoorCodeAid
import Derived.Test.YtphgpimkkfgedaaGreatDoorBut
namespace Go.Proofs.YtphgpimkkfgedaaGreatDoor
open Go.ChangeShapes Go.WideShapes Go.ChangeAt Go.RowKit Go.Joins
theorem OwnCode.cell {w : World} {B g : Nat} {C : List OpV} (h : OwnCode w B g C) (j : Nat) (hj : j < C.length * 6) : ∃ v : Int, w.cell? ⟨g, j, none⟩ = some (.int .i64 v) := by
  obtain ⟨v, hv⟩ := (h.steps (j / 6) (by omega)).cell (j % 6) (Nat.mod_lt _ (by decide))
  have e : j / 6 * 6 + j % 6 = j := by omega
  rw [e] at hv
  exact ⟨v, hv⟩
theorem but_put6 {w w' : World} {g : Nat} (h : But g w w') (o : Nat) (x : OpV) : But g w (put6 w' g o x) :=
  (((((h.setCell rfl _).setCell rfl _).setCell rfl _).setCell rfl _).setCell rfl _).setCell rfl _
set_option maxRecDepth 20000 in
set_option maxHeartbeats 4000000 in
theorem markOps_any (C : List OpV) (B g cap : Nat) (w : World) (hl : C.length ≤ 1048576) (h : OwnCode w B g C) :
    Calls Tryz.prog 13 #[.slice (some ⟨g, 0, none⟩) C.length cap, .int .i64 1] w fun e w' => (∃ n : Int, e = .returned (.int .i64 n) ∧ 0 < n) ∧ But g w w' := by
  have hsome := h.cell
  have hfree := h.free
  go_enter Tryz.func13, Tryz.ntmps13
  go_wp2_with fail
  go_loopw [1, 5] (fun m i wr => ∃ k : Nat, k ≤ C.length ∧ i = .int .i64 k ∧ m = .int .i64 (1 + 6 * (k : Int)) ∧ But g w wr ∧ (∀ j, j < C.length * 6 → ∃ v : Int, wr.cell? ⟨g, j, none⟩ = some (.int .i64 v)) ∧ (∀ j, wr.frozen? ⟨g, j, none⟩ = false))
    (fun _ i _ => C.length - (intOf i).toNat)
  case atStart => exact ⟨0, Nat.zero_le _, rfl, rfl, But.refl _ _, hsome, hfree⟩
  case round =>
    clear hsome hfree
    obtain ⟨k, hk, rfl, rfl, hB, hsome, hfree⟩ := hrel
    by_cases hlt' : k < C.length
    · obtain ⟨v0, d0⟩ := hsome (k * 6) (by omega)
      obtain ⟨v1, d1⟩ := hsome (k * 6 + 1) (by omega)
      obtain ⟨v2, d2⟩ := hsome (k * 6 + 2) (by omega)
      obtain ⟨v3, d3⟩ := hsome (k * 6 + 3) (by omega)
      obtain ⟨v4, d4⟩ := hsome (k * 6 + 4) (by omega)
      obtain ⟨v5, d5⟩ := hsome (k * 6 + 5) (by omega)
      have f0 := hfree (k * 6)
      have f1 := hfree (k * 6 + 1)
      have f2 := hfree (k * 6 + 2)
      have f3 := hfree (k * 6 + 3)
      have f4 := hfree (k * 6 + 4)
      have f5 := hfree (k * 6 + 5)
      have HS : Hid (∀ j, j < C.length * 6 → ∃ v : Int, wr.cell? ⟨g, j, none⟩ = some (.int .i64 v)) := hsome
      have HR : Hid (∀ j, wr.frozen? ⟨g, j, none⟩ = false) := hfree
      clear hsome hfree
      go_wp2_with fail
      go_roundw
      case rel =>
        obtain ⟨x, hx⟩ : ∃ x : OpV, x = ⟨1 + 6 * (k : Int), 1 + 6 * (k : Int) + 1, 1 + 6 * (k : Int) + 2, 1 + 6 * (k : Int) + 3, 1 + 6 * (k : Int) + 4, 1 + 6 * (k : Int) + 5⟩ := ⟨_, rfl⟩
        have hnew := put6_at wr g (k * 6) x (fun j hj => by obtain ⟨v, hv⟩ := HS.out (k * 6 + j) (by omega); exact ⟨_, hv⟩)
        have hw := but_put6 hB (k * 6) x
        have hout := put6_out wr g (k * 6) x
        have hfr := put6_frozen wr g (k * 6) x
        subst hx
        refine ⟨k + 1, by omega, by go_num, ?_, ?_, fun j hj => ?_, fun j => ?_⟩
        · first | rfl | (congr 1; done) | (congr 1; omega)
        · exact hw
        · by_cases hin : k * 6 ≤ j ∧ j < k * 6 + 6
          · obtain ⟨v, hv⟩ := hnew.cell (j - k * 6) (by omega)
            have e : k * 6 + (j - k * 6) = j := by omega
            rw [e] at hv
            exact ⟨v, hv⟩
          · obtain ⟨v, hv⟩ := HS.out j hj
            exact ⟨v, (hout _ _ (fun _ => by omega)).trans hv⟩
        · exact (hfr _).trans (HR.out j)
      case measure => simp [intOf]; omega
    · have e : k = C.length := by omega
      subst e
      go_wp2_with fail
      go_ret
      exact ⟨⟨_, rfl, by omega⟩, hB⟩
end Go.Proofs.YtphgpimkkfgedaaGreatDoor
