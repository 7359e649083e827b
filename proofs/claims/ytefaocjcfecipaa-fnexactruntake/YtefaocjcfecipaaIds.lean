/-
  Numbers of other runs over this translation: what spec.l11Ids answers on a row of numbers.
-/
import Derived.Test.YtefaocjcfecipaaInts
import Derived.Test.YtefaocjcfecipaaRunNewA
import Derived.Deep.QuietTactic
import Derived.BigQuiet
namespace Go.Proofs.Ytefaocjcfecipaa
open Go.ChangeShapes Go.WideShapes Go.ChangeAt Go.RowKit Go.Joins
/-- whether the number at a place is one of another run, and was not told before -/
def idQ (own : Int) (L : List Int) (i : Nat) : Bool := isRunB (L.getD i 0) && (!(L.getD i 0 == own) && !hasI (L.take i) (L.getD i 0))
def idsB (own : Int) (L : List Int) : Bool := (List.range L.length).all (idQ own L)
theorem idsB_no {own : Int} {L : List Int} {i : Nat} (hi : i < L.length) (h : idQ own L i = false) : idsB own L = false := by
  unfold idsB
  rw [List.all_eq_false]
  exact ⟨i, List.mem_range.2 hi, by rw [h]; simp⟩
theorem idsB_yes {own : Int} {L : List Int} (h : ∀ i, i < L.length → idQ own L i = true) : idsB own L = true := by
  unfold idsB
  rw [List.all_eq_true]
  exact fun i hi => h i (List.mem_range.1 hi)
/-- the first numbers of a row -/
theorem Ints.pre {S : Nat} {w : World} {b o cap : Nat} {L : List Int} (hb : b < S) (h : ∀ i (h : i < L.length), w.cell? ⟨b, o + i, none⟩ = some (.int .i64 L[i])) (k : Nat) (hk : k ≤ L.length) : Ints S w (.slice (some ⟨b, o, none⟩) k cap) (L.take k) :=
  ⟨_, cap, by rw [List.length_take, Nat.min_eq_left hk], .inr ⟨b, o, rfl, hb, fun i hi => by
    rw [List.length_take] at hi
    rw [h i (by omega), List.getElem_take]⟩⟩
theorem Ints.drewN {S : Nat} {w : World} {v : Value} {L : List Int} (h : Ints S w v L) (q : Nat) : Ints S (w.drewN q) v L := h.below ⟨rfl, rfl, rfl, Nat.le_refl _, fun _ _ => rfl⟩
set_option maxRecDepth 20000 in
set_option maxHeartbeats 4000000 in
theorem l11Ids_any (S : Nat) (own : Int) (L : List Int) (ao : Option Addr) (cap : Nat) (w : World) (hS : S ≤ w.heap.size) (hl : L.length ≤ 1048576) (hcap : L.length ≤ cap) (h : Ints S w (.slice ao L.length cap) L) :
    Calls Try.prog 47 #[.slice ao L.length cap, .int .i64 own] w fun e w' => e = .returned (.bool (idsB own L)) ∧ Below w.heap.size w w' := by
  obtain ⟨ao', cap', hv, h⟩ := h
  injection hv with h1 _ h3
  subst h1
  subst h3
  rcases h with rfl | ⟨b, o, rfl, hb, hc⟩
  · go_enter Try.func47, Try.ntmps47
    go_wp2_with fail
    refine wp_loop_rounds 1 ?_
    rw [rounds_succ]
    go_wp2_with fail
    go_ret
    exact ⟨rfl, Below.refl _ _⟩
  replace hc : Hid (∀ i (h : i < L.length), w.cell? ⟨b, o + i, none⟩ = some (.int .i64 L[i])) := hc
  go_enter Try.func47, Try.ntmps47
  go_wp2_with fail
  go_loopw [5] (fun i wr => ∃ k : Nat, k ≤ L.length ∧ i = .int .i64 k ∧ (∀ j, j < k → idQ own L j = true) ∧ Below w.heap.size w wr) (fun i _ => L.length - (intOf i).toNat)
  case atStart => exact ⟨0, Nat.zero_le _, rfl, fun j hj => by omega, Below.refl _ _⟩
  case round =>
    obtain ⟨k, hk, rfl, hU, hBr⟩ := hrel
    have hzr := hBr.size
    replace hU : Hid (∀ j, j < k → idQ own L j = true) := hU
    by_cases hlt : k < L.length
    · have g1 : (k : Int) < (L.length : Int) := by omega
      have g2 : (k : Int) ≤ (cap : Int) := by omega
      have hcr : ∀ i (h : i < L.length), wr.cell? ⟨b, o + i, none⟩ = some (.int .i64 L[i]) := fun i hi => (hBr.cell (p := ⟨b, o + i, none⟩) (by show b < w.heap.size; omega)).trans (hc.out i hi)
      have c0 := hcr k hlt
      have hI : Ints S wr (.slice (some ⟨b, o, none⟩) k cap) (L.take k) := Ints.pre hb hcr k (by omega)
      have htl : (L.take k).length ≤ 1048576 := by rw [List.length_take]; omega
      have hq : idQ own L k = (isRunB L[k] && (!(L[k] == own) && !hasI (L.take k) L[k])) := by
        unfold idQ
        rw [show L.getD k 0 = L[k] by simp [List.getD_eq_getElem?_getD, List.getElem?_eq_getElem hlt]]
      have hno : Hid (idQ own L k = false → idsB own L = false) := fun h => idsB_no hlt h
      have hyes : Hid (idQ own L k = true → ∀ j, j < k + 1 → idQ own L j = true) := fun h j hj => by
        by_cases e : j < k
        · exact hU.out j e
        · have : j = k := by omega
          subst this; exact h
      clear hcr
      generalize L[k] = x at *
      generalize hxb : isRunB x = rb at *
      generalize hhb : hasI (L.take k) x = hb2 at *
      replace hq : Hid (idQ own L k = (rb && (!(x == own) && !hb2))) := hq
      have hrb : (decide (1 ≤ x) && decide (x ≤ 6)) = rb := hxb
      replace hhb : Hid (hasI (L.take k) x = hb2) := hhb
      have hin : Hid (∀ W : World, Calls Try.prog 30 #[.int .i64 x, .int .i64 1, .int .i64 6] W fun e w' => e = .returned (.bool rb) ∧ w' = W) := fun W => by rw [← hrb]; exact l6In_any x 1 6 W
      have ham : Hid (∀ q, Calls Try.prog 72 #[.slice (some ⟨b, o, none⟩) k cap, .int .i64 x] (wr.drewN q) fun e w' => e = .returned (.bool hb2) ∧ w' = wr.drewN q) := fun q => by rw [← hhb.out]; exact among_any S (L.take k) _ x _ htl (hI.drewN q)
      clear hxb hrb hhb
      cases rb with
      | false =>
        have hf : Hid (idsB own L = false) := hno.out (by rw [hq.out]; rfl)
        go_wp2_with fail
        go_quiet ((go_at_call 30; exact Calls.quiet_of_same (hin.out _)))
        go_wp2_with fail
        go_ret
        exact ⟨by rw [hf.out]; rfl, hBr.trans ⟨rfl, rfl, rfl, Nat.le_refl _, fun _ _ => rfl⟩⟩
      | true =>
        by_cases ho : x = own
        · have ho' : (x == own) = true := by simp [ho]
          have hf : Hid (idsB own L = false) := hno.out (by rw [hq.out, ho']; rfl)
          clear ho
          go_wp2_with fail
          go_quiet ((go_at_call 30; exact Calls.quiet_of_same (hin.out _)))
          go_wp2_with fail
          go_ret
          exact ⟨by rw [hf.out]; rfl, hBr.trans ⟨rfl, rfl, rfl, Nat.le_refl _, fun _ _ => rfl⟩⟩
        · have ho' : (x == own) = false := by simp [ho]
          clear ho
          cases hb2 with
          | true =>
            have hf : Hid (idsB own L = false) := hno.out (by rw [hq.out, ho']; rfl)
            go_wp2_with fail
            go_quiet (first | (go_at_call 30; exact Calls.quiet_of_same (hin.out _)) | (go_at_call 72; exact Calls.quiet_of_same (ham.out _)))
            go_wp2_with fail
            go_ret
            exact ⟨by rw [hf.out]; rfl, hBr.trans ⟨rfl, rfl, rfl, Nat.le_refl _, fun _ _ => rfl⟩⟩
          | false =>
            have hn := hyes.out (by rw [hq.out, ho']; rfl)
            replace hn : Hid (∀ j, j < k + 1 → idQ own L j = true) := hn
            go_wp2_with fail
            go_quiet (first | (go_at_call 30; exact Calls.quiet_of_same (hin.out _)) | (go_at_call 72; exact Calls.quiet_of_same (ham.out _)))
            go_wp2_with fail
            go_roundw
            case rel => exact ⟨k + 1, by omega, by go_num, hn.out, hBr.trans ⟨rfl, rfl, rfl, Nat.le_refl _, fun _ _ => rfl⟩⟩
            case measure => simp [intOf]; omega
    · have e : k = L.length := by omega
      subst e
      have hy : Hid (idsB own L = true) := idsB_yes hU.out
      go_wp2_with fail
      go_ret
      exact ⟨by rw [hy.out]; rfl, hBr⟩
end Go.Proofs.Ytefaocjcfecipaa
