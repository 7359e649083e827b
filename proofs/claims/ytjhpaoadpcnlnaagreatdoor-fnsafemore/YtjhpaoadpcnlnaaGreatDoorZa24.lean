/-
  spec.l3Next and spec.CodeNext over this translation: the places to which one comes from a place, in a row of their own; nothing that was there turns.
-/
import Derived.Test.YtjhpaoadpcnlnaaGreatDoorZa23
import Derived.Test.YtjhpaoadpcnlnaaGreatDoorZa14
namespace Go.Proofs.YtjhpaoadpcnlnaaGreatDoor
open Go.ChangeShapes Go.WideShapes Go.ChangeAt Go.RowKit Go.Joins
/-- the last steps of l3Next: the row so far, and To -/
theorem next_end {L : List Nat} {m : Nat} {g c : Bool} (hc : L.contains m = c) : (if (g && !(L.contains m)) = true then L ++ [m] else L) = if g = true then (if c = true then L else L ++ [m]) else L := by
  subst hc
  cases g <;> cases L.contains m <;> simp
set_option maxRecDepth 20000 in
set_option maxHeartbeats 4000000 in
theorem l3Next_any (C : List OpV) (ao : Option Addr) (cap i : Nat) (w : World) (hl : C.length ≤ 1048576) (h : CodeAt w ao C) (hi : i < C.length) (ht0 : 0 ≤ C[i].t) :
    Calls Tryz.prog 68 #[.slice ao C.length cap, .int .i64 i] w fun e w' => ∃ v, e = .returned v ∧ Owns w' w.heap.size v (toI (nextL C[i] i C.length)) ∧ Below w.heap.size w w' := by
  rcases h with rfl | ⟨b, o, rfl, hlt, hs⟩
  · exact absurd hi (by simp)
  have s := hs i hi
  obtain ⟨x, hx0⟩ : ∃ x, x = C[i] := ⟨_, rfl⟩
  rw [← hx0] at s ht0 ⊢
  clear hx0 hs
  obtain ⟨c0, c1, c2, c3, c4, c5⟩ := s
  obtain ⟨inf, i1, i2, i3, i4⟩ := info_intI
  obtain ⟨m, hm⟩ := Int.eq_ofNat_of_zero_le ht0
  rw [hm] at c3
  have hm' : Hid (x.t.toNat = m) := by show x.t.toNat = m; rw [hm]; simp
  clear hm ht0
  have hN : Hid (nextL x i C.length = if (goesB x.k && !((if (!(x.k == 9 || x.k == 14) && decide (i + 1 < C.length)) = true then [i + 1] else []).contains m)) = true then (if (!(x.k == 9 || x.k == 14) && decide (i + 1 < C.length)) = true then [i + 1] else []) ++ [m] else (if (!(x.k == 9 || x.k == 14) && decide (i + 1 < C.length)) = true then [i + 1] else [])) := by
    show nextL x i C.length = _
    unfold nextL
    rw [hm'.out]
  by_cases hp : (!(x.k == 9 || x.k == 14) && decide (i + 1 < C.length)) = true
  · have e9 : (x.k == 9) = false := by simp at hp; simp [hp.1.1]
    have e14 : (x.k == 14) = false := by simp at hp; simp [hp.1.2]
    have hn : i + 1 < C.length := by simp at hp; exact hp.2
    have hN2 : Hid (nextL x i C.length = if (goesB x.k && !([i + 1].contains m)) = true then [i + 1] ++ [m] else [i + 1]) := by
      show nextL x i C.length = _
      rw [hN.out, if_pos hp]
    have n9 : ¬ x.k = 9 := by simp at hp; exact hp.1.1
    have n14 : ¬ x.k = 14 := by simp at hp; exact hp.1.2
    have b9 : (x.k != 9) = true := by simp [n9]
    have b14 : (x.k != 14) = true := by simp [n14]
    have hn' : (i : Int) + 1 < (C.length : Int) := by omega
    have hown0 : ∀ O1 O3, (((w.alloc O1).alloc (.cells #[] 3)).alloc O3).ownsRow w.heap.size 3 1 (.slice (some ⟨w.heap.size + 1, 0, none⟩) 0 0) 0 [] := fun O1 O3 => by
      have := World.ownsRow.alloc (World.ownsRow_lit (base := w.heap.size) (e := 3) (size := 1) (w.alloc O1) #[] 0 (by simp) (by decide) rfl) O3
      simpa using this
    clear hp hN
    go_enter Tryz.func68, Tryz.ntmps68
    go_wp2_with (refine wpList_append_own _ rfl (.tmp 27) (.tmp 30) 38 rfl w.heap.size 3 inf (.int .i64 0) 1 8 Tryz.underlying38 i1 i2 i3 i4 rfl (by decide) (.slice (some ⟨w.heap.size + 1, 0, none⟩) 0 0) 0 [] rfl (hown0 _ _) ⟨w.heap.size + 1 + 1, 0, none⟩ 1 1 [.int .i64 ((i : Int) + 1)] rfl rfl (by intro q u hq; cases q with | zero => simp at hq; subst hq; simp [Addr.add, go_sem] | succ q => simp at hq) (by simp [Value.oneCell']) (by decide) (by decide) (by simp <;> omega) ?_; intro z w1 ho1 hg1 _; have D0 : w1.cell? ⟨w.heap.size, 0, none⟩ = some (.int .i64 x.k) := hg1.cell (by simp [go_sem]) (by simp [Value.ownBlock]); have D3 : w1.cell? ⟨w.heap.size, 3, none⟩ = some (.int .i64 (m : Int)) := hg1.cell (by simp [go_sem]) (by simp [Value.ownBlock]))
    have hz1 := hg1.size
    simp at hz1
    have hB1 : Below w.heap.size w w1 := ((((Below.refl _ _).alloc (Nat.le_refl _) _).alloc (by simp) _).alloc (by simp; omega) _).grown hg1 (by simp <;> omega) (by intro k hk; simp [Value.ownBlock] at hk; omega)
    have hO1 : Owns w1 w.heap.size z (toI [i + 1]) := by simpa [Owns, toI] using ho1
    clear ho1 hg1 hown0
    refine (goes_any _ _).mono ?_
    rintro e wq ⟨rfl, rfl⟩
    cases hg : goesB x.k with
    | false =>
      have hL : Hid (nextL x i C.length = [i + 1]) := by
        show nextL x i C.length = [i + 1]
        rw [hN2.out, next_end rfl, hg]; rfl
      go_wp2_with fail
      go_ret
      exact ⟨_, rfl, by rw [hL.out]; exact hO1, hB1⟩
    | true =>
      go_wp2_with fail
      refine (among_any _ (toI [i + 1]) z (m : Int) _ (by rw [toI_len]; simp) (Owns.ints (B := w.heap.size) hO1)).mono ?_
      rintro e wq ⟨rfl, rfl⟩
      rw [hasI_toI]
      cases hc : ([i + 1] : List Nat).contains m with
      | true =>
        have hL : Hid (nextL x i C.length = [i + 1]) := by
          show nextL x i C.length = [i + 1]
          rw [hN2.out, next_end hc, hg]; rfl
        go_wp2_with fail
        go_ret
        exact ⟨_, rfl, by rw [hL.out]; exact hO1, hB1⟩
      | false =>
        have hL : Hid (nextL x i C.length = [i + 1] ++ [m]) := by
          show nextL x i C.length = [i + 1] ++ [m]
          rw [hN2.out, next_end hc, hg]; rfl
        go_wp2_with (refine wpList_append_own _ rfl (.tmp 42) (.tmp 45) 38 rfl w.heap.size 3 inf (.int .i64 0) 1 8 Tryz.underlying38 i1 i2 i3 i4 rfl (by decide) z _ _ rfl (World.ownsRow.alloc hO1 _) ⟨_, 0, none⟩ 1 1 [.int .i64 (m : Int)] rfl rfl (by intro q u hq; cases q with | zero => simp at hq; subst hq; simp [Addr.add, go_sem] | succ q => simp at hq) (by simp [Value.oneCell']) (by rw [toI_len]; simp [maxLen]) (by rw [toI_len]; simp) (by simp <;> omega) ?_; intro y w9 ho9 hg9 _)
        have hB9 : Below w.heap.size w w9 := (Below.alloc hB1 (by (try simp) <;> omega) _).grown hg9 (by simp <;> omega) (by intro k hk; have := (World.ownsRow.lt hO1 k hk).1; omega)
        go_ret
        exact ⟨_, rfl, by rw [hL.out]; simpa [Owns, toI] using ho9, hB9⟩
  · have hN2 : Hid (nextL x i C.length = if (goesB x.k && !(([] : List Nat).contains m)) = true then [] ++ [m] else []) := by
      show nextL x i C.length = _
      rw [hN.out, if_neg hp]
    have hO : Owns ((w.alloc (.cells #[.int .i64 x.k, .int .i64 x.r, .int .i64 x.s, .int .i64 (m : Int), .int .i64 x.a, .int .i64 x.b] 26)).alloc (.cells #[] 3)) w.heap.size (.slice (some ⟨w.heap.size + 1, 0, none⟩) 0 0) (toI []) := by
      have := World.ownsRow_lit (base := w.heap.size) (e := 3) (size := 1) (w.alloc (.cells #[.int .i64 x.k, .int .i64 x.r, .int .i64 x.s, .int .i64 (m : Int), .int .i64 x.a, .int .i64 x.b] 26)) #[] 0 (by simp) (by decide) rfl
      simpa [Owns, toI] using this
    have hBO : Below w.heap.size w ((w.alloc (.cells #[.int .i64 x.k, .int .i64 x.r, .int .i64 x.s, .int .i64 (m : Int), .int .i64 x.a, .int .i64 x.b] 26)).alloc (.cells #[] 3)) := ((Below.refl _ _).alloc (Nat.le_refl _) _).alloc (by simp) _
    clear hN
    by_cases h9 : x.k = 9
    · have e9 : (x.k == 9) = true := by simp [h9]
      have b9 : (x.k != 9) = false := by simp [h9]
      clear h9 hp
      go_enter Tryz.func68, Tryz.ntmps68
      go_wp2_with fail
      refine (goes_any _ _).mono ?_
      rintro e wq ⟨rfl, rfl⟩
      cases hg : goesB x.k with
      | false =>
        have hL : Hid (nextL x i C.length = ([] : List Nat)) := by
          show nextL x i C.length = ([] : List Nat)
          rw [hN2.out, next_end rfl, hg]; rfl
        go_wp2_with fail
        go_ret
        exact ⟨_, rfl, by rw [hL.out]; exact hO, hBO⟩
      | true =>
        go_wp2_with fail
        refine (among_any _ (toI ([] : List Nat)) (.slice (some ⟨w.heap.size + 1, 0, none⟩) 0 0) (m : Int) _ (by rw [toI_len]; simp) (Owns.ints (B := w.heap.size) hO)).mono ?_
        rintro e wq ⟨rfl, rfl⟩
        rw [hasI_toI]
        cases hc : (([] : List Nat) : List Nat).contains m with
        | true =>
          have hL : Hid (nextL x i C.length = ([] : List Nat)) := by
            show nextL x i C.length = ([] : List Nat)
            rw [hN2.out, next_end hc, hg]; rfl
          go_wp2_with fail
          go_ret
          exact ⟨_, rfl, by rw [hL.out]; exact hO, hBO⟩
        | false =>
          have hL : Hid (nextL x i C.length = ([] : List Nat) ++ [m]) := by
            show nextL x i C.length = ([] : List Nat) ++ [m]
            rw [hN2.out, next_end hc, hg]; rfl
          go_wp2_with (refine wpList_append_own _ rfl (.tmp 42) (.tmp 45) 38 rfl w.heap.size 3 inf (.int .i64 0) 1 8 Tryz.underlying38 i1 i2 i3 i4 rfl (by decide) (.slice (some ⟨w.heap.size + 1, 0, none⟩) 0 0) 0 [] rfl (World.ownsRow.alloc hO _) ⟨w.heap.size + 1 + 1, 0, none⟩ 1 1 [.int .i64 (m : Int)] rfl rfl (by intro q u hq; cases q with | zero => simp at hq; subst hq; simp [Addr.add, go_sem] | succ q => simp at hq) (by simp [Value.oneCell']) (by decide) (by decide) (by simp <;> omega) ?_; intro y w9 ho9 hg9 _)
          have hB9 : Below w.heap.size w w9 := (Below.alloc hBO (by (try simp) <;> omega) _).grown hg9 (by simp <;> omega) (by intro k hk; have := (World.ownsRow.lt hO k hk).1; omega)
          go_ret
          exact ⟨_, rfl, by rw [hL.out]; simpa [Owns, toI] using ho9, hB9⟩
    by_cases h14 : x.k = 14
    · have hL : Hid (nextL x i C.length = []) := by
        show nextL x i C.length = []
        rw [hN2.out, next_end rfl, h14]; rfl
      rw [h14] at hO hBO
      clear hp
      go_enter Tryz.func68, Tryz.ntmps68
      go_wp2_with fail
      refine (goes_any _ _).mono ?_
      rintro e wq ⟨rfl, rfl⟩
      have hg : goesB 14 = false := rfl
      go_wp2_with fail
      go_ret
      exact ⟨_, rfl, by rw [hL.out]; exact hO, hBO⟩
    · have e9 : (x.k == 9) = false := by simp [h9]
      have e14 : (x.k == 14) = false := by simp [h14]
      have b9 : (x.k != 9) = true := by simp [h9]
      have b14 : (x.k != 14) = true := by simp [h14]
      have hn : ¬ ((i : Int) + 1 < (C.length : Int)) := by simp [h9, h14] at hp; omega
      clear hp
      go_enter Tryz.func68, Tryz.ntmps68
      go_wp2_with fail
      refine (goes_any _ _).mono ?_
      rintro e wq ⟨rfl, rfl⟩
      cases hg : goesB x.k with
      | false =>
        have hL : Hid (nextL x i C.length = ([] : List Nat)) := by
          show nextL x i C.length = ([] : List Nat)
          rw [hN2.out, next_end rfl, hg]; rfl
        go_wp2_with fail
        go_ret
        exact ⟨_, rfl, by rw [hL.out]; exact hO, hBO⟩
      | true =>
        go_wp2_with fail
        refine (among_any _ (toI ([] : List Nat)) (.slice (some ⟨w.heap.size + 1, 0, none⟩) 0 0) (m : Int) _ (by rw [toI_len]; simp) (Owns.ints (B := w.heap.size) hO)).mono ?_
        rintro e wq ⟨rfl, rfl⟩
        rw [hasI_toI]
        cases hc : (([] : List Nat) : List Nat).contains m with
        | true =>
          have hL : Hid (nextL x i C.length = ([] : List Nat)) := by
            show nextL x i C.length = ([] : List Nat)
            rw [hN2.out, next_end hc, hg]; rfl
          go_wp2_with fail
          go_ret
          exact ⟨_, rfl, by rw [hL.out]; exact hO, hBO⟩
        | false =>
          have hL : Hid (nextL x i C.length = ([] : List Nat) ++ [m]) := by
            show nextL x i C.length = ([] : List Nat) ++ [m]
            rw [hN2.out, next_end hc, hg]; rfl
          go_wp2_with (refine wpList_append_own _ rfl (.tmp 42) (.tmp 45) 38 rfl w.heap.size 3 inf (.int .i64 0) 1 8 Tryz.underlying38 i1 i2 i3 i4 rfl (by decide) (.slice (some ⟨w.heap.size + 1, 0, none⟩) 0 0) 0 [] rfl (World.ownsRow.alloc hO _) ⟨w.heap.size + 1 + 1, 0, none⟩ 1 1 [.int .i64 (m : Int)] rfl rfl (by intro q u hq; cases q with | zero => simp at hq; subst hq; simp [Addr.add, go_sem] | succ q => simp at hq) (by simp [Value.oneCell']) (by decide) (by decide) (by simp <;> omega) ?_; intro y w9 ho9 hg9 _)
          have hB9 : Below w.heap.size w w9 := (Below.alloc hBO (by (try simp) <;> omega) _).grown hg9 (by simp <;> omega) (by intro k hk; have := (World.ownsRow.lt hO k hk).1; omega)
          go_ret
          exact ⟨_, rfl, by rw [hL.out]; simpa [Owns, toI] using ho9, hB9⟩
set_option maxHeartbeats 2000000 in
theorem specCodeNext_any (C : List OpV) (ao : Option Addr) (cap : Nat) (i : Int) (w : World) (hl : C.length ≤ 1048576) (hi0 : -9223372036854775808 ≤ i) (hi1 : i ≤ 9223372036854775807) (h : CodeAt w ao C) :
    Calls Tryz.prog 41 #[.slice ao C.length cap, .int .i64 i] w fun e w' => ∃ v, e = .returned v ∧ Owns w' w.heap.size v (nextI C i) ∧ Below w.heap.size w w' := by
  go_enter Tryz.func41, Tryz.ntmps41
  go_wp2_with fail
  refine (specCodeOk_any C ao cap _ hl h).mono ?_
  rintro e w1 ⟨rfl, hb1⟩
  have hz1 := hb1.size
  have hlit : Owns (w1.alloc (.cells #[] 3)) w.heap.size (.slice (some ⟨w1.heap.size, 0, none⟩) 0 0) [] := by
    have := World.ownsRow_lit (base := w.heap.size) (e := 3) (size := 1) w1 #[] 0 (by omega) (by decide) rfl
    simpa [Owns] using this
  cases hC : codeB C with
  | false =>
    go_wp2_with fail
    go_ret
    exact ⟨_, rfl, by rw [nextI_no (.inl hC)]; exact hlit, hb1.alloc (by omega) _⟩
  | true =>
  obtain ⟨hw, hl16, hok⟩ := codeB_well hC
  go_wp2_with fail
  refine (l6In_any _ _ _ _).mono ?_
  rintro e wq ⟨rfl, rfl⟩
  by_cases h0 : i < 0
  · have e0 : decide (0 ≤ i) = false := by simp; omega
    go_wp2_with fail
    go_ret
    exact ⟨_, rfl, by rw [nextI_no (.inr (.inl h0))]; exact hlit, hb1.alloc (by omega) _⟩
  have e0 : decide (0 ≤ i) = true := by simp; omega
  by_cases h1 : (C.length : Int) ≤ i
  · have e1 : decide (i ≤ (C.length : Int) - 1) = false := by simp; omega
    go_wp2_with fail
    go_ret
    exact ⟨_, rfl, by rw [nextI_no (.inr (.inr h1))]; exact hlit, hb1.alloc (by omega) _⟩
  have e1 : decide (i ≤ (C.length : Int) - 1) = true := by simp; omega
  obtain ⟨n, rfl⟩ := Int.eq_ofNat_of_zero_le (show 0 ≤ i by omega)
  have hn : n < C.length := by omega
  go_wp2_with fail
  refine (l3Next_any C ao cap n _ hl (h.below hb1) hn (hw.2 n hn).1).mono ?_
  rintro e w2 ⟨v, rfl, ho, hb2⟩
  go_wp2_with fail
  go_ret
  exact ⟨_, rfl, by rw [nextI_yes hC hn]; exact Owns.mono ho (by omega), hb1.trans (hb2.mono (by omega))⟩
end Go.Proofs.YtjhpaoadpcnlnaaGreatDoor
