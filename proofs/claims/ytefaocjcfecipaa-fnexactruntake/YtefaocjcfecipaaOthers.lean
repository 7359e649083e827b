/-
  Numbers of other runs over this translation: what impl's areOthers answers on a row of numbers.
-/
import Derived.Test.YtefaocjcfecipaaIds
import Derived.Test.YtefaocjcfecipaaRunRow
namespace Go.Proofs.Ytefaocjcfecipaa
open Go.ChangeShapes Go.WideShapes Go.ChangeAt Go.RowKit Go.Joins
set_option maxRecDepth 20000 in
set_option maxHeartbeats 4000000 in
theorem areOthers_any (S : Nat) (d : RunD) (q : RunP) (L : List Int) (ao : Option Addr) (cap : Nat) (w : World) (hS : S ≤ w.heap.size) (hl : L.length ≤ 1048576) (hcap : L.length ≤ cap) (h : Ints S w (.slice ao L.length cap) L) :
    Calls Try.prog 42 #[d.val q, .slice ao L.length cap] w fun e w' => e = .returned (.bool (idsB d.id L)) ∧ Below w.heap.size w w' := by
  obtain ⟨ao', cap', hv, h⟩ := h
  injection hv with h1 _ h3
  subst h1
  subst h3
  rcases h with rfl | ⟨b, o, rfl, hb, hc⟩
  · go_enter Try.func42, Try.ntmps42
    go_wp2_with fail
    refine wp_loop_rounds 1 ?_
    rw [rounds_succ]
    go_wp2_with fail
    go_ret
    exact ⟨rfl, (Below.refl _ _).alloc (Nat.le_refl _) _⟩
  have hb0 : Below w.heap.size w (w.alloc (.cells (d.cells q) 30)) := (Below.refl _ _).alloc (Nat.le_refl _) _
  have c00 : (w.alloc (.cells (d.cells q) 30)).cell? ⟨w.heap.size, 0, none⟩ = some (.int .i64 d.id) := (runAt_new w d q 30).c0
  have hz0 : w.heap.size < (w.alloc (.cells (d.cells q) 30)).heap.size := by simp
  replace hc : Hid (∀ i (h : i < L.length), w.cell? ⟨b, o + i, none⟩ = some (.int .i64 L[i])) := hc
  go_enter Try.func42, Try.ntmps42
  go_wp2_with fail
  generalize (w.alloc (.cells (d.cells q) 30)) = w0 at *
  generalize hide : d.id = own at *
  replace hide : Hid (d.id = own) := hide
  go_loopw [9] (fun i wr => ∃ k : Nat, k ≤ L.length ∧ i = .int .i64 k ∧ (∀ j, j < k → idQ own L j = true) ∧ Below w0.heap.size w0 wr) (fun i _ => L.length - (intOf i).toNat)
  case atStart => exact ⟨0, Nat.zero_le _, rfl, fun j hj => by omega, Below.refl _ _⟩
  case round =>
    obtain ⟨k, hk, rfl, hU, hBr⟩ := hrel
    have hzr := hBr.size
    replace hU : Hid (∀ j, j < k → idQ own L j = true) := hU
    have hBw : Below w.heap.size w wr := hb0.trans (hBr.mono (by omega))
    by_cases hlt : k < L.length
    · have g1 : (k : Int) < (L.length : Int) := by omega
      have g2 : (k : Int) ≤ (cap : Int) := by omega
      have d0 : wr.cell? ⟨w.heap.size, 0, none⟩ = some (.int .i64 own) := (hBr.cell (p := ⟨w.heap.size, 0, none⟩) hz0).trans c00
      have hcr : ∀ i (h : i < L.length), wr.cell? ⟨b, o + i, none⟩ = some (.int .i64 L[i]) := fun i hi => (hBw.cell (p := ⟨b, o + i, none⟩) (by show b < w.heap.size; omega)).trans (hc.out i hi)
      have c0 := hcr k hlt
      have hI : Ints S wr (.slice (some ⟨b, o, none⟩) k cap) (L.take k) := Ints.pre hb hcr k (by omega)
      have htl : (L.take k).length ≤ 1048576 := by rw [List.length_take]; omega
      have hq : idQ own L k = (isRunB L[k] && (!(L[k] == own) && !hasI (L.take k) L[k])) := by
        unfold idQ
        rw [show L.getD k 0 = L[k] by simp [List.getD_eq_getElem?_getD, List.getElem?_eq_getElem hlt]]
      have hno : Hid (idQ own L k = false → idsB own L = false) := fun h => idsB_no hlt h
      have hyes : Hid (idQ own L k = true → ∀ j, j < k + 1 → idQ own L j = true) := fun h j hj => by
        by_cases e : j < k
        · exact hU.out j e
        · have : j = k := by omega
          subst this; exact h
      clear hcr
      generalize L[k] = x at *
      replace hq : Hid (idQ own L k = (isRunB x && (!(x == own) && !hasI (L.take k) x))) := hq
      cases hrb : isRunB x with
      | false =>
        have hf : Hid (idsB own L = false) := hno.out (by rw [hq.out, hrb]; rfl)
        go_wp2_with fail
        refine (isRun_any x _).mono ?_
        rintro e w1 ⟨rfl, rfl⟩
        rw [hrb]
        go_wp2_with fail
        go_ret
        exact ⟨by rw [hide.out, hf.out]; rfl, hBw⟩
      | true =>
        by_cases ho : x = own
        · have ho' : (x == own) = true := by simp [ho]
          have hf : Hid (idsB own L = false) := hno.out (by rw [hq.out, hrb, ho']; rfl)
          clear ho
          go_wp2_with fail
          refine (isRun_any x _).mono ?_
          rintro e w1 ⟨rfl, rfl⟩
          rw [hrb]
          go_wp2_with fail
          go_ret
          exact ⟨by rw [hide.out, hf.out]; rfl, hBw⟩
        · have ho' : (x == own) = false := by simp [ho]
          clear ho
          cases hhb : hasI (L.take k) x with
          | true =>
            have hf : Hid (idsB own L = false) := hno.out (by rw [hq.out, hrb, ho', hhb]; rfl)
            go_wp2_with fail
            refine (isRun_any x _).mono ?_
            rintro e w1 ⟨rfl, rfl⟩
            rw [hrb]
            go_wp2_with fail
            refine (contains_any S (L.take k) _ x _ htl hI).mono ?_
            rintro e w1 ⟨rfl, rfl⟩
            rw [hhb]
            go_wp2_with fail
            go_ret
            exact ⟨by rw [hide.out, hf.out]; rfl, hBw⟩
          | false =>
            have hn : Hid (∀ j, j < k + 1 → idQ own L j = true) := hyes.out (by rw [hq.out, hrb, ho', hhb]; rfl)
            go_wp2_with fail
            refine (isRun_any x _).mono ?_
            rintro e w1 ⟨rfl, rfl⟩
            rw [hrb]
            go_wp2_with fail
            refine (contains_any S (L.take k) _ x _ htl hI).mono ?_
            rintro e w1 ⟨rfl, rfl⟩
            rw [hhb]
            go_wp2_with fail
            go_roundw
            case rel => exact ⟨k + 1, by omega, by go_num, hn.out, hBr⟩
            case measure => simp [intOf]; omega
    · have e : k = L.length := by omega
      subst e
      have hy : Hid (idsB own L = true) := idsB_yes hU.out
      go_wp2_with fail
      go_ret
      exact ⟨by rw [hide.out, hy.out]; rfl, hBw⟩
end Go.Proofs.Ytefaocjcfecipaa
