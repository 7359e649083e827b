/-
  spec.l3Bit, l3Has, l3With, l3Both, l3Fills and l3Merge over this translation.
-/
import Derived.Test.YtphgpimkkfgedaaGreatDoorBits
import Derived.Test.YtphgpimkkfgedaaGreatDoorBut
import Derived.Test.YtphgpimkkfgedaaGreatDoorOpForm
namespace Go.Proofs.YtphgpimkkfgedaaGreatDoor
open Go.ChangeShapes Go.WideShapes Go.ChangeAt Go.RowKit Go.Joins
theorem bit_four (r : Int) : bitOf r = 1 ∨ bitOf r = 2 ∨ bitOf r = 4 ∨ bitOf r = 8 := by
  unfold bitOf
  split
  · exact .inl rfl
  · split
    · exact .inr (.inl rfl)
    · split
      · exact .inr (.inr (.inl rfl))
      · exact .inr (.inr (.inr rfl))
theorem l3Bit_any (r : Int) (w : World) (h0 : 0 ≤ r) (h3 : r ≤ 3) : Calls Tryz.prog 44 #[.int .i64 r] w fun e w' => e = .returned (.int .i64 (bitOf r)) ∧ Below w.heap.size w w' := by
  have h : r = 0 ∨ r = 1 ∨ r = 2 ∨ r = 3 := by omega
  rcases h with rfl | rfl | rfl | rfl <;>
  · go_enter Tryz.func44, Tryz.ntmps44
    go_wp2_with fail
    go_ret
    exact ⟨rfl, (Below.refl _ _).alloc (Nat.le_refl _) _⟩
/-- whether bits have that of a slot -/
def hasB (x r : Int) : Bool := x / bitOf r % 2 == 1
theorem l3Has_any (x r : Int) (w : World) (hx0 : 0 ≤ x) (hx : x ≤ 15) (h0 : 0 ≤ r) (h3 : r ≤ 3) : Calls Tryz.prog 33 #[.int .i64 x, .int .i64 r] w fun e w' => e = .returned (.bool (hasB x r)) ∧ Below w.heap.size w w' := by
  go_enter Tryz.func33, Tryz.ntmps33
  go_wp2_with fail
  refine (l3Bit_any r _ h0 h3).mono ?_
  rintro e w1 ⟨rfl, hb1⟩
  have hH : Hid (hasB x r = (x / bitOf r % 2 == 1)) := rfl
  have hb := bit_four r
  generalize bitOf r = b at *
  rcases hb with rfl | rfl | rfl | rfl
  all_goals
    go_wp2_with fail
    go_ret
    exact ⟨by rw [hH.out]; first | rfl | (rw [Int.ediv_one]; rfl), hb1⟩
theorem with_or {x r : Int} (hx0 : 0 ≤ x) (hx : x ≤ 15) (h0 : 0 ≤ r) (h3 : r ≤ 3) : (if hasB x r = true then x else x + bitOf r) = orB x (bitOf r) := by
  have key : ∀ i : Fin 17, ∀ j : Fin 4, 0 ≤ (i.val : Int) - 1 → (if hasB ((i.val : Int) - 1) (j.val : Int) = true then (i.val : Int) - 1 else (i.val : Int) - 1 + bitOf (j.val : Int)) = orB ((i.val : Int) - 1) (bitOf (j.val : Int)) := by decide +kernel
  obtain ⟨i, rfl⟩ := bd_fin (x := x) ⟨by omega, hx⟩
  have := key i ⟨r.toNat, by omega⟩ hx0
  have e : ((r.toNat : Nat) : Int) = r := by omega
  simpa [e] using this
theorem l3With_any (x r : Int) (w : World) (hx0 : 0 ≤ x) (hx : x ≤ 15) (h0 : 0 ≤ r) (h3 : r ≤ 3) : Calls Tryz.prog 51 #[.int .i64 x, .int .i64 r] w fun e w' => e = .returned (.int .i64 (orB x (bitOf r))) ∧ Below w.heap.size w w' := by
  have hor : Hid ((if hasB x r = true then x else x + bitOf r) = orB x (bitOf r)) := with_or hx0 hx h0 h3
  go_enter Tryz.func51, Tryz.ntmps51
  go_wp2_with fail
  refine (l3Has_any x r _ hx0 hx h0 h3).mono ?_
  rintro e w1 ⟨rfl, hb1⟩
  cases hh : hasB x r with
  | true =>
    go_wp2_with fail
    go_ret
    exact ⟨by rw [← hor.out, if_pos hh]; rfl, hb1⟩
  | false =>
    go_wp2_with fail
    refine (l3Bit_any r _ h0 h3).mono ?_
    rintro e w2 ⟨rfl, hb2⟩
    have hbb := bit_bd r
    go_wp2_with fail
    go_ret
    exact ⟨by rw [← hor.out, if_neg (by rw [hh]; decide)]; rfl, hb1.trans (hb2.mono hb1.size)⟩
/-- the bits that both have, of the first slots -/
def bothTo (a b : Int) : Nat → Int
  | 0 => 0
  | k + 1 => bothTo a b k + if (hasB a (k : Int) && hasB b (k : Int)) = true then bitOf (k : Int) else 0
theorem both_meet {a b : Int} (ha0 : 0 ≤ a) (ha : a ≤ 15) (hb0 : 0 ≤ b) (hb : b ≤ 15) : bothTo a b 4 = meet a b := by
  have key : ∀ i j : Fin 17, 0 ≤ (i.val : Int) - 1 → 0 ≤ (j.val : Int) - 1 → bothTo ((i.val : Int) - 1) ((j.val : Int) - 1) 4 = meet ((i.val : Int) - 1) ((j.val : Int) - 1) := by decide +kernel
  obtain ⟨i, rfl⟩ := bd_fin (x := a) ⟨by omega, ha⟩
  obtain ⟨j, rfl⟩ := bd_fin (x := b) ⟨by omega, hb⟩
  exact key i j ha0 hb0
theorem both_bd (a b : Int) : ∀ k : Nat, 0 ≤ bothTo a b k ∧ bothTo a b k ≤ 15 * (k : Int)
  | 0 => by simp [bothTo]
  | k + 1 => by
    have ih := both_bd a b k
    have := bit_bd (k : Int)
    unfold bothTo
    split <;> omega
set_option maxHeartbeats 2000000 in
theorem l3Both_any (a b : Int) (w : World) (ha : Bd a) (hb0 : 0 ≤ b) (hb : b ≤ 15) : Calls Tryz.prog 56 #[.int .i64 a, .int .i64 b] w fun e w' => e = .returned (.int .i64 (meet a b)) ∧ Below w.heap.size w w' := by
  obtain ⟨ha1, ha2⟩ := ha
  by_cases h0 : a < 0
  · have e : Hid (meet a b = b) := by show meet a b = b; unfold meet; rw [if_pos h0]
    go_enter Tryz.func56, Tryz.ntmps56
    go_wp2_with fail
    go_ret
    exact ⟨by rw [e.out]; rfl, Below.refl _ _⟩
  · have hm : Hid (bothTo a b 4 = meet a b) := both_meet (by omega) ha2 hb0 hb
    go_enter Tryz.func56, Tryz.ntmps56
    go_wp2_with fail
    go_loopw [5, 6] (fun x i wr => ∃ k : Nat, k ≤ 4 ∧ i = .int .i64 k ∧ x = .int .i64 (bothTo a b k) ∧ Below w.heap.size w wr) (fun _ i _ => 4 - (intOf i).toNat)
    case atStart => exact ⟨0, by decide, rfl, rfl, Below.refl _ _⟩
    case round =>
      obtain ⟨k, hk, rfl, rfl, hB⟩ := hrel
      have hbk := both_bd a b k
      have hzr := hB.size
      by_cases hlt : k < 4
      · have hlt' : (k : Int) ≤ 3 := by omega
        have hs : ∀ c, (hasB a (k : Int) && hasB b (k : Int)) = c → Hid (bothTo a b (k + 1) = bothTo a b k + if c = true then bitOf (k : Int) else 0) := by
          intro c hc; show bothTo a b (k + 1) = _; rw [bothTo, hc]
        have hbb := bit_bd (k : Int)
        go_wp2_with fail
        refine (l3Has_any a (k : Int) _ (by omega) ha2 (by omega) hlt').mono ?_
        rintro e w1 ⟨rfl, hb1⟩
        have hB1 : Below w.heap.size w w1 := hB.trans (hb1.mono hzr)
        have hz1 := hb1.size
        clear hb1
        cases h1 : hasB a (k : Int) with
        | false =>
          have hs' := hs false (by rw [h1]; rfl)
          clear hs
          generalize bothTo a b k = x0 at *
          go_wp2_with fail
          go_roundw
          case rel => exact ⟨k + 1, by omega, by go_num, by rw [hs'.out]; simp, hB1⟩
          case measure => simp [intOf]; omega
        | true =>
          go_wp2_with fail
          refine (l3Has_any b (k : Int) _ hb0 hb (by omega) hlt').mono ?_
          rintro e w2 ⟨rfl, hb2⟩
          have hB2 : Below w.heap.size w w2 := hB1.trans (hb2.mono (by omega))
          have hz2 := hb2.size
          clear hb2
          cases h2 : hasB b (k : Int) with
          | false =>
            have hs' := hs false (by rw [h1, h2]; rfl)
            clear hs
            generalize bothTo a b k = x0 at *
            go_wp2_with fail
            go_roundw
            case rel => exact ⟨k + 1, by omega, by go_num, by rw [hs'.out]; simp, hB2⟩
            case measure => simp [intOf]; omega
          | true =>
            have hs' := hs true (by rw [h1, h2]; rfl)
            clear hs
            go_wp2_with fail
            refine (l3Bit_any (k : Int) _ (by omega) hlt').mono ?_
            rintro e w3 ⟨rfl, hb3⟩
            have hB3 : Below w.heap.size w w3 := hB2.trans (hb3.mono (by omega))
            clear hb3
            generalize bothTo a b k = x0 at *
            generalize bitOf (k : Int) = y0 at *
            go_wp2_with fail
            go_roundw
            case rel => exact ⟨k + 1, by omega, by go_num, by rw [hs'.out]; simp, hB3⟩
            case measure => simp [intOf]; omega
      · have e : k = 4 := by omega
        subst e
        rw [hm.out] at *
        go_wp2_with fail
        go_ret
        exact ⟨rfl, hB⟩
set_option maxHeartbeats 1000000 in
theorem l3Fills_any (k : Int) (w : World) (h1 : 1 ≤ k) (h2 : k ≤ 14) : Calls Tryz.prog 50 #[.int .i64 k] w fun e w' => e = .returned (.bool (fillsB k)) ∧ w' = w := by
  rcases kinds14 h1 h2 with rfl | rfl | rfl | rfl | rfl | rfl | rfl | rfl | rfl | rfl | rfl | rfl | rfl | rfl <;>
  · go_enter Tryz.func50, Tryz.ntmps50
    go_wp2_with fail
    go_ret
    exact ⟨rfl, rfl⟩
theorem merge_len (V : List Int) (p : Nat × Int) : (mergeV V p).length = V.length := by unfold mergeV; split <;> simp
set_option maxHeartbeats 2000000 in
theorem l3Merge_any (F n : Nat) (V : List Int) (hn : V.length = n) (i : Nat) (y : Int) (w : World) (hF : Bits w F V) (hi : i < V.length) (hx : Bd (atV V i)) (hy0 : 0 ≤ y) (hy : y ≤ 15) :
    Calls Tryz.prog 52 #[.slice (some ⟨F, 0, none⟩) n n, .int .i64 i, .int .i64 y] w fun e w' => e = .returned (.bool (mergeB V (i, y))) ∧ Bits w' F (mergeV V (i, y)) ∧ But F w w' := by
  subst hn
  have c0 := hF.cell hi
  have f0 := hF.free i
  have hlt := hF.lt
  have hii : (i : Int) < (V.length : Int) := by omega
  go_enter Tryz.func52, Tryz.ntmps52
  go_wp2_with fail
  refine (l3Both_any _ _ _ hx hy0 hy).mono ?_
  rintro e w1 ⟨rfl, hb1⟩
  have c1 : w1.cell? ⟨F, i, none⟩ = some (.int .i64 (atV V i)) := (hb1.cell (p := ⟨F, i, none⟩) hlt).trans c0
  have f1 : w1.frozen? ⟨F, i, none⟩ = false := (hb1.frozen (p := ⟨F, i, none⟩) hlt).trans f0
  have hF1 : Hid (Bits w1 F V) := hF.keep (hb1.block F hlt)
  have hM : Hid (mergeV V (i, y) = (if meet (atV V i) y = atV V i then V else V.set i (meet (atV V i) y)) ∧ mergeB V (i, y) = !(meet (atV V i) y == atV V i)) := ⟨rfl, rfl⟩
  clear c0 f0 hF
  generalize atV V i = x at *
  generalize meet x y = m at *
  by_cases he : m = x
  · have he' : (m == x) = true := by simp [he]
    have hM2 : Hid (mergeV V (i, y) = V ∧ mergeB V (i, y) = false) := by
      refine ⟨by rw [hM.out.1, if_pos he], by rw [hM.out.2, he']; rfl⟩
    clear he
    go_wp2_with fail
    go_ret
    exact ⟨by rw [hM2.out.2]; rfl, by rw [hM2.out.1]; exact hF1.out, But.of_below hb1⟩
  · have he' : (m == x) = false := by simp [he]
    have hM2 : Hid (mergeV V (i, y) = V.set i m ∧ mergeB V (i, y) = true) := by
      refine ⟨by rw [hM.out.1, if_neg he], by rw [hM.out.2, he']; rfl⟩
    clear he
    go_wp2_with fail
    go_ret
    exact ⟨by rw [hM2.out.2]; rfl, by rw [hM2.out.1]; exact hF1.out.set i m, (But.of_below (R := F) hb1).setCell (p := ⟨F, i, none⟩) rfl _⟩
theorem l3Merge_out (F n : Nat) (i : Nat) (y : Int) (w : World) (hi : n ≤ i) :
    Calls Tryz.prog 52 #[.slice (some ⟨F, 0, none⟩) n n, .int .i64 i, .int .i64 y] w fun e w' => e = .returned (.bool false) ∧ w' = w := by
  have hii : (n : Int) ≤ (i : Int) := by omega
  go_enter Tryz.func52, Tryz.ntmps52
  go_wp2_with fail
  go_ret
  exact ⟨rfl, rfl⟩
end Go.Proofs.YtphgpimkkfgedaaGreatDoor
