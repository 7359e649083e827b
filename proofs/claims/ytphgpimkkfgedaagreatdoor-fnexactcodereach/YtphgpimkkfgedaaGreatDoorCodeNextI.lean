/-
  impl.CodeNext over this translation: the places to which one comes from a place, in a row of their own; nothing that was there turns.
-/
import Derived.Test.YtphgpimkkfgedaaGreatDoorWaysAt
import Derived.Test.YtphgpimkkfgedaaGreatDoorCodeOkI
namespace Go.Proofs.YtphgpimkkfgedaaGreatDoor
open Go.ChangeShapes Go.WideShapes Go.ChangeAt Go.RowKit Go.Joins
/-- the places to which one comes, at any argument -/
def nextI (C : List OpV) (i : Int) : List Int :=
  if codeB C = true ∧ 0 ≤ i ∧ i < C.length then toI (nextL (C.getD i.toNat ⟨0, 0, 0, 0, 0, 0⟩) i.toNat C.length) else []
theorem nextI_no {C : List OpV} {i : Int} (h : codeB C = false ∨ i < 0 ∨ (C.length : Int) ≤ i) : nextI C i = [] := by
  unfold nextI; rw [if_neg]; rintro ⟨h1, h2, h3⟩
  rcases h with h | h | h
  · rw [h] at h1; cases h1
  · omega
  · omega
theorem nextI_yes {C : List OpV} {i : Nat} (h : codeB C = true) (hi : i < C.length) : nextI C (i : Int) = toI (nextL C[i] i C.length) := by
  unfold nextI; rw [if_pos ⟨h, by omega, by omega⟩]
  have e : C.getD i ⟨0, 0, 0, 0, 0, 0⟩ = C[i] := by simp [List.getD_eq_getElem?_getD, List.getElem?_eq_getElem hi]
  rw [Int.toNat_natCast, e]
set_option maxHeartbeats 4000000 in
theorem implCodeNext_any (C : List OpV) (ao : Option Addr) (cap : Nat) (i : Int) (w : World) (hl : C.length ≤ 1048576) (h : CodeAt w ao C) :
    Calls Tryz.prog 17 #[.slice ao C.length cap, .int .i64 i] w fun e w' => ∃ v, e = .returned v ∧ Owns w' w.heap.size v (nextI C i) ∧ Below w.heap.size w w' := by
  go_enter Tryz.func17, Tryz.ntmps17
  go_wp2_with fail
  refine (implCodeOk_any C ao cap _ hl h).mono ?_
  rintro e w1 ⟨rfl, hb1⟩
  cases hC : codeB C with
  | false =>
    go_wp2_with fail
    go_ret
    exact ⟨_, rfl, by rw [nextI_no (.inl hC)]; exact ⟨rfl, .inl ⟨rfl, rfl⟩⟩, hb1⟩
  | true =>
  by_cases h0 : i < 0
  · go_wp2_with fail
    go_ret
    exact ⟨_, rfl, by rw [nextI_no (.inr (.inl h0))]; exact ⟨rfl, .inl ⟨rfl, rfl⟩⟩, hb1⟩
  by_cases h1 : (C.length : Int) ≤ i
  · go_wp2_with fail
    go_ret
    exact ⟨_, rfl, by rw [nextI_no (.inr (.inr h1))]; exact ⟨rfl, .inl ⟨rfl, rfl⟩⟩, hb1⟩
  obtain ⟨n, rfl⟩ := Int.eq_ofNat_of_zero_le (show 0 ≤ i by omega)
  have hn : n < C.length := by omega
  have hcode := h.below hb1
  have hz1 := hb1.size
  go_wp2_with fail
  refine (ways_any C ao cap n 1 _ hC hcode hn ⟨by decide, by decide⟩ (by decide)).mono ?_
  rintro e w2 ⟨v, rfl, hov, hb2⟩
  have hat := OwnsW.at hov
  have hB2 : Below w.heap.size w w2 := hb1.trans (hb2.mono (by omega))
  have hz2 := hb2.size
  have hwl := ways_len C[n] n C.length 1
  have hL : Hid (nextI C (n : Int) = toI (addAll [] ((waysL C[n] n C.length 1).map (·.1)))) := by
    show nextI C (n : Int) = _
    rw [nextI_yes hC hn, waysAdd]
  clear hov hb2 hb1 h hcode
  generalize waysL C[n] n C.length 1 = L at *
  obtain ⟨ao2, cap2, rfl, hlc, hcells⟩ := hat
  obtain ⟨inf, i1, i2, i3, i4⟩ := info_intI
  go_wp2_with fail
  go_loopw [5, 25] (fun v i wr => ∃ k : Nat, k ≤ L.length ∧ i = .int .i64 k ∧ Owns wr w2.heap.size v (toI (addAll [] ((L.take k).map (·.1)))) ∧ Below w2.heap.size w2 wr) (fun _ i _ => L.length - (intOf i).toNat)
  case atStart => exact ⟨0, Nat.zero_le _, rfl, ⟨rfl, .inl ⟨rfl, rfl⟩⟩, Below.refl _ _⟩
  case round =>

    obtain ⟨k, hk, rfl, ho, hB⟩ := hrel
    by_cases hlt : k < L.length
    · rcases hcells with rfl | ⟨b, o, rfl, hbl, hc⟩
      · exact absurd hlt (by simp)
      obtain ⟨c0, c1⟩ := hc k hlt
      have d0 : wr.cell? ⟨b, o + k * 2, none⟩ = some (.int .i64 (L[k].1 : Int)) := (hB.cell (p := ⟨b, o + k * 2, none⟩) hbl).trans c0
      have d1 : wr.cell? ⟨b, o + k * 2 + 1, none⟩ = some (.int .i64 L[k].2) := (hB.cell (p := ⟨b, o + k * 2 + 1, none⟩) hbl).trans c1
      have hst := addAll_take [] L k hlt
      have hal := addAll_len ((L.take k).map (·.1)) []
      simp only [List.length_nil, List.length_map, List.length_take, Nat.zero_add] at hal
      have hS : Hid (addAll [] ((L.take (k + 1)).map (·.1)) = addL (addAll [] ((L.take k).map (·.1))) L[k].1) := hst
      generalize addAll [] ((L.take k).map (·.1)) = M at *
      generalize L[k].1 = m at *
      generalize L[k].2 = y at *
      have hzr := hB.size
      have hM : M.length ≤ 2 := by omega
      clear hc c0 c1 hst
      go_wp2_with fail
      have ho1 := World.ownsRow.alloc ho (.cells #[.int .i64 (m : Int), .int .i64 y] 45)
      refine (contains_any _ (toI M) _ (m : Int) _ (by rw [toI_len]; omega) (Owns.ints ho1)).mono ?_
      rintro e w3 ⟨rfl, rfl⟩
      rw [hasI_toI]
      cases hh : M.contains m with
      | true =>
        have hS2 : Hid (addAll [] ((L.take (k + 1)).map (·.1)) = M) := by
          show addAll [] ((L.take (k + 1)).map (·.1)) = M
          rw [hS.out]; unfold addL; rw [if_pos hh]
        go_wp2_with fail
        go_roundw
        case rel => exact ⟨k + 1, by omega, by go_num, by rw [hS2.out]; exact ho1, hB.alloc (by omega) _⟩
        case measure => simp [intOf]; omega
      | false =>
        have hS2 : Hid (addAll [] ((L.take (k + 1)).map (·.1)) = M ++ [m]) := by
          show addAll [] ((L.take (k + 1)).map (·.1)) = M ++ [m]
          rw [hS.out]; unfold addL; rw [if_neg (by rw [hh]; decide)]
        go_wp2_with (refine wpList_append_own _ rfl (.tmp 34) (.tmp 37) 24 rfl w2.heap.size 3 inf (.int .i64 0) 1 8 Tryz.underlying24 i1 i2 i3 i4 rfl (by decide) _ _ _ rfl (World.ownsRow.alloc ho1 _) ⟨wr.heap.size + 1, 0, none⟩ 1 1 [.int .i64 (m : Int)] rfl rfl (by intro q u hq; cases q with | zero => simp at hq; subst hq; simp [Addr.add, go_sem] | succ q => simp at hq) (by simp [Value.oneCell']) (by rw [toI_len]; unfold maxLen; omega) (by rw [toI_len]; omega) (by simp <;> omega) ?_; intro x0 w4 ho0 hg0 _)
        have hB4 : Below w2.heap.size w2 w4 := ((hB.alloc (by omega) _).alloc (by simp; omega) _).grown hg0 (by simp <;> omega) (by intro k hk; have := (World.ownsRow.lt ho k hk).1; omega)
        go_roundw
        case rel => exact ⟨k + 1, by omega, by go_num, by rw [hS2.out]; simpa [Owns, toI] using ho0, hB4⟩
        case measure => simp [intOf]; omega
    · have e : k = L.length := by omega
      subst e
      go_wp2_with fail
      go_ret
      exact ⟨_, rfl, by rw [hL.out]; rw [List.take_length] at ho; exact Owns.mono ho (by omega), hB2.trans (hB.mono (by omega))⟩
end Go.Proofs.YtphgpimkkfgedaaGreatDoor
