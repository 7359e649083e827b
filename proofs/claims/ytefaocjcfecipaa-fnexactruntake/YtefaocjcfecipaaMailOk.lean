/-
  What waits for a run, over this translation: what impl's mailOk answers.
-/
import Derived.Test.YtefaocjcfecipaaRunRow
import Derived.Test.YtefaocjcfecipaaRunNewA
namespace Go.Proofs.Ytefaocjcfecipaa
open Go.ChangeShapes Go.WideShapes Go.ChangeAt Go.RowKit Go.Joins
def allOk (L : List (Int × Int)) : Bool := L.all fun x => okB x.1 x.2
def mailB (L : List (Int × Int)) : Bool := decide (L.length ≤ 12) && allOk L
theorem allOk_no {L : List (Int × Int)} {i : Nat} (hi : i < L.length) (h : okB L[i].1 L[i].2 = false) : allOk L = false := by
  unfold allOk
  rw [List.all_eq_false]
  exact ⟨L[i], List.getElem_mem hi, by rw [h]; simp⟩
theorem allOk_yes {L : List (Int × Int)} (h : ∀ i (h : i < L.length), okB L[i].1 L[i].2 = true) : allOk L = true := by
  unfold allOk
  rw [List.all_eq_true]
  intro x hx
  obtain ⟨i, hi, rfl⟩ := List.getElem_of_mem hx
  exact h i hi
set_option maxRecDepth 20000 in
set_option maxHeartbeats 4000000 in
theorem mailOk_any (S : Nat) (d : RunD) (q : RunP) (w : World) (hS : S ≤ w.heap.size) (hl : d.mail.length ≤ 1048576) (h : Vals S w (d.v1 q) d.mail) :
    Calls Try.prog 40 #[d.val q] w fun e w' => e = .returned (.bool (mailB d.mail)) ∧ Below w.heap.size w w' := by
  have hb0 : Below w.heap.size w (w.alloc (.cells (d.cells q) 30)) := (Below.refl _ _).alloc (Nat.le_refl _) _
  have c04 : (w.alloc (.cells (d.cells q) 30)).cell? ⟨w.heap.size, 4, none⟩ = some (.slice q.a1 d.mail.length q.k1) := (runAt_new w d q 30).c4
  have hz0 : w.heap.size < (w.alloc (.cells (d.cells q) 30)).heap.size := by simp
  obtain ⟨ao, cap, hv, hc⟩ := h
  have hv' : Value.slice q.a1 d.mail.length q.k1 = .slice ao d.mail.length cap := hv
  injection hv' with h1 _ h3
  rw [h1, h3] at c04
  by_cases h12 : d.mail.length ≤ 12
  case neg =>
    have g1 : (12 : Int) < (d.mail.length : Int) := by omega
    have hf : Hid (mailB d.mail = false) := by show mailB d.mail = false; simp [mailB, h12]
    go_enter Try.func40, Try.ntmps40
    go_wp2_with fail
    go_ret
    exact ⟨by rw [hf.out]; rfl, hb0⟩
  have g1 : ¬ (12 : Int) < (d.mail.length : Int) := by omega
  have hm : Hid (mailB d.mail = allOk d.mail) := by show mailB d.mail = allOk d.mail; simp [mailB, h12]
  rcases hc with hL0 | ⟨b, o, rfl, hb, hc⟩
  · have hy : Hid (mailB d.mail = true) := by show mailB d.mail = true; rw [hm.out, hL0]; rfl
    have hn0 : ((d.mail.length : Nat) : Int) = 0 := by rw [hL0]; rfl
    replace hL0 : Hid (d.mail = []) := hL0
    go_enter Try.func40, Try.ntmps40
    go_wp2_with fail
    refine wp_loop_rounds 1 ?_
    rw [rounds_succ]
    go_wp2_with fail
    go_ret
    exact ⟨by rw [hy.out]; rfl, hb0⟩
  replace hc : Hid (∀ i (h : i < d.mail.length), ValAt w b (o + i * 2) d.mail[i]) := hc
  go_enter Try.func40, Try.ntmps40
  go_wp2_with fail
  generalize hLe : d.mail = L at *
  replace hLe : Hid (d.mail = L) := hLe
  generalize (w.alloc (.cells (d.cells q) 30)) = w0 at *
  go_loopw [12] (fun i wr => ∃ k : Nat, k ≤ L.length ∧ i = .int .i64 k ∧ (∀ j (h : j < L.length), j < k → okB L[j].1 L[j].2 = true) ∧ Below w0.heap.size w0 wr) (fun i _ => L.length - (intOf i).toNat)
  case atStart => exact ⟨0, Nat.zero_le _, rfl, fun j _ hj => by omega, Below.refl _ _⟩
  case round =>
    obtain ⟨k, hk, rfl, hU, hBr⟩ := hrel
    have hzr := hBr.size
    replace hU : Hid (∀ j (h : j < L.length), j < k → okB L[j].1 L[j].2 = true) := hU
    have hBw : Below w.heap.size w wr := hb0.trans (hBr.mono (by omega))
    by_cases hlt : k < L.length
    · have g2 : (k : Int) < (L.length : Int) := by omega
      obtain ⟨v0, v1⟩ := hc.out k hlt
      have d0 : wr.cell? ⟨b, o + k * 2, none⟩ = some (.int .i64 L[k].1) := (hBw.cell (p := ⟨b, o + k * 2, none⟩) (by show b < w.heap.size; omega)).trans v0
      have d1 : wr.cell? ⟨b, o + k * 2 + 1, none⟩ = some (.int .i64 L[k].2) := (hBw.cell (p := ⟨b, o + k * 2 + 1, none⟩) (by show b < w.heap.size; omega)).trans v1
      have hno : Hid (okB L[k].1 L[k].2 = false → allOk L = false) := fun h => allOk_no hlt h
      have hyes : Hid (okB L[k].1 L[k].2 = true → ∀ j (h : j < L.length), j < k + 1 → okB L[j].1 L[j].2 = true) := fun h j hjl hj => by
        by_cases e : j < k
        · exact hU.out j hjl e
        · have : j = k := by omega
          subst this; exact h
      clear v0 v1
      generalize L[k].1 = x at *
      generalize L[k].2 = y at *
      go_wp2_with fail
      refine (implOk_any x y _).mono ?_
      rintro e w1 ⟨rfl, hb1⟩
      have hB1 : Below w0.heap.size w0 w1 := (hBr.alloc hzr _).trans (hb1.mono (by simp; omega))
      cases ho : okB x y with
      | false =>
        have hf : Hid (allOk L = false) := hno.out ho
        clear hb1
        go_wp2_with fail
        go_ret
        exact ⟨by rw [hLe.out, hm.out, hf.out]; rfl, hb0.trans (hB1.mono (by omega))⟩
      | true =>
        have hn : Hid (∀ j (h : j < L.length), j < k + 1 → okB L[j].1 L[j].2 = true) := hyes.out ho
        clear hb1
        go_wp2_with fail
        go_roundw
        case rel => exact ⟨k + 1, by omega, by go_num, hn.out, hB1⟩
        case measure => simp [intOf]; omega
    · have e : k = L.length := by omega
      subst e
      have hy : Hid (allOk L = true) := allOk_yes (fun i hi => hU.out i hi hi)
      go_wp2_with fail
      go_ret
      exact ⟨by rw [hLe.out, hm.out, hy.out]; rfl, hBw⟩
end Go.Proofs.Ytefaocjcfecipaa
