/-
  What impl.kindOfWord answers over this translation: the kind whose word it is, or 0; nothing that was there turns.
-/
import Derived.Test.YtekmjgkjpdhedaaGreatDoorOpImplOk
import Derived.Test.YtekmjgkjpdhedaaGreatDoorOpText
namespace Go.Proofs.YtekmjgkjpdhedaaGreatDoor
open Go.ChangeShapes Go.WideShapes Go.ChangeAt Go.RowKit Go.Joins
/-- a word is a kind's, or nobody's -/
def KW (x : List UInt8) (k : Int) : Prop := (1 ≤ k ∧ k ≤ 14 ∧ x = word k) ∨ (k = 0 ∧ ∀ j, 1 ≤ j → j ≤ 14 → x ≠ word j)
set_option maxRecDepth 20000 in
set_option maxHeartbeats 8000000 in
theorem kindOfWord_any (x : List UInt8) (w : World) :
    Calls Tryz.prog 96 #[.string ⟨x.toArray⟩] w fun e w' => (∃ k, KW x k ∧ e = .returned (.int .i64 k)) ∧ Below w.heap.size w w' := by
  go_enter Tryz.func96, Tryz.ntmps96
  go_wp2_with fail
  refine wp_loop_rounds 16 ?_
  have hB0 : Below w.heap.size w w := Below.refl _ _
  have hz0 : w.heap.size ≤ w.heap.size := Nat.le_refl _
  rw [rounds_succ]
  go_wp2_with fail
  refine (formOf_any 1 _ (by decide) (by decide)).mono ?_
  rintro e u1 ⟨hb1, y1, y2, y3, rfl, _⟩
  rw [row_1]
  have hy1 := hb1.size
  have hc1 : Below w.heap.size w u1 := hB0.trans (hb1.mono (by omega))
  clear hb1
  by_cases hx1 : x = [115, 101, 116]
  · subst hx1
    go_wp2_with fail
    go_ret
    exact ⟨⟨1, .inl ⟨by decide, by decide, rfl⟩, rfl⟩, hc1.alloc (by omega) _⟩
  have q1 : ([115, 101, 116] == x) = false := by rw [beq_eq_false_iff_ne]; exact fun h => hx1 h.symm
  go_wp2_with fail
  obtain ⟨v1, hw1⟩ : ∃ z, z = u1.alloc (.cells #[.string ⟨#[115, 101, 116]⟩, .func (.func 73) #[] #[], .func (.func 74) #[] #[], .func (.func 75) #[] #[], .func (.func 80) #[] #[], .nilFunc, .nilFunc, .func (.func 84) #[] #[], .nilFunc, .nilFunc, .func (.func 85) #[] #[], .func (.func 86) #[] #[], .func (.func 87) #[] #[], .slice none 0 0] 79) := ⟨_, rfl⟩
  rw [← hw1]
  have hB1 : Below w.heap.size w v1 := by rw [hw1]; exact hc1.alloc (by omega) _
  have hz1 : w.heap.size ≤ v1.heap.size := hB1.size
  clear hw1 hc1 q1 hy1
  rw [rounds_succ]
  go_wp2_with fail
  refine (formOf_any 2 _ (by decide) (by decide)).mono ?_
  rintro e u2 ⟨hb2, y1, y2, y3, rfl, _⟩
  rw [row_2]
  have hy2 := hb2.size
  have hc2 : Below w.heap.size w u2 := hB1.trans (hb2.mono (by omega))
  clear hb2
  by_cases hx2 : x = [109, 111, 118, 101]
  · subst hx2
    go_wp2_with fail
    go_ret
    exact ⟨⟨2, .inl ⟨by decide, by decide, rfl⟩, rfl⟩, hc2.alloc (by omega) _⟩
  have q2 : ([109, 111, 118, 101] == x) = false := by rw [beq_eq_false_iff_ne]; exact fun h => hx2 h.symm
  go_wp2_with fail
  obtain ⟨v2, hw2⟩ : ∃ z, z = u2.alloc (.cells #[.string ⟨#[109, 111, 118, 101]⟩, .func (.func 73) #[] #[], .func (.func 74) #[] #[], .func (.func 75) #[] #[], .func (.func 77) #[] #[], .func (.func 78) #[] #[], .func (.func 79) #[] #[], .func (.func 84) #[] #[], .nilFunc, .nilFunc, .func (.func 88) #[] #[], .nilFunc, .nilFunc, .slice (some ⟨y2, 0, none⟩) 1 1] 79) := ⟨_, rfl⟩
  rw [← hw2]
  have hB2 : Below w.heap.size w v2 := by rw [hw2]; exact hc2.alloc (by omega) _
  have hz2 : w.heap.size ≤ v2.heap.size := hB2.size
  clear hw2 hc2 q2 hy2
  rw [rounds_succ]
  go_wp2_with fail
  refine (formOf_any 3 _ (by decide) (by decide)).mono ?_
  rintro e u3 ⟨hb3, y1, y2, y3, rfl, _⟩
  rw [row_3]
  have hy3 := hb3.size
  have hc3 : Below w.heap.size w u3 := hB2.trans (hb3.mono (by omega))
  clear hb3
  by_cases hx3 : x = [97, 100, 100]
  · subst hx3
    go_wp2_with fail
    go_ret
    exact ⟨⟨3, .inl ⟨by decide, by decide, rfl⟩, rfl⟩, hc3.alloc (by omega) _⟩
  have q3 : ([97, 100, 100] == x) = false := by rw [beq_eq_false_iff_ne]; exact fun h => hx3 h.symm
  go_wp2_with fail
  obtain ⟨v3, hw3⟩ : ∃ z, z = u3.alloc (.cells #[.string ⟨#[97, 100, 100]⟩, .func (.func 73) #[] #[], .func (.func 74) #[] #[], .func (.func 75) #[] #[], .func (.func 77) #[] #[], .func (.func 78) #[] #[], .func (.func 79) #[] #[], .func (.func 84) #[] #[], .nilFunc, .nilFunc, .func (.func 88) #[] #[], .nilFunc, .nilFunc, .slice (some ⟨y3, 0, none⟩) 2 2] 79) := ⟨_, rfl⟩
  rw [← hw3]
  have hB3 : Below w.heap.size w v3 := by rw [hw3]; exact hc3.alloc (by omega) _
  have hz3 : w.heap.size ≤ v3.heap.size := hB3.size
  clear hw3 hc3 q3 hy3
  rw [rounds_succ]
  go_wp2_with fail
  refine (formOf_any 4 _ (by decide) (by decide)).mono ?_
  rintro e u4 ⟨hb4, y1, y2, y3, rfl, _⟩
  rw [row_4]
  have hy4 := hb4.size
  have hc4 : Below w.heap.size w u4 := hB3.trans (hb4.mono (by omega))
  clear hb4
  by_cases hx4 : x = [115, 101, 108, 102]
  · subst hx4
    go_wp2_with fail
    go_ret
    exact ⟨⟨4, .inl ⟨by decide, by decide, rfl⟩, rfl⟩, hc4.alloc (by omega) _⟩
  have q4 : ([115, 101, 108, 102] == x) = false := by rw [beq_eq_false_iff_ne]; exact fun h => hx4 h.symm
  go_wp2_with fail
  obtain ⟨v4, hw4⟩ : ∃ z, z = u4.alloc (.cells #[.string ⟨#[115, 101, 108, 102]⟩, .func (.func 73) #[] #[], .func (.func 74) #[] #[], .func (.func 75) #[] #[], .func (.func 80) #[] #[], .nilFunc, .nilFunc, .func (.func 84) #[] #[], .nilFunc, .nilFunc, .func (.func 88) #[] #[], .nilFunc, .nilFunc, .slice none 0 0] 79) := ⟨_, rfl⟩
  rw [← hw4]
  have hB4 : Below w.heap.size w v4 := by rw [hw4]; exact hc4.alloc (by omega) _
  have hz4 : w.heap.size ≤ v4.heap.size := hB4.size
  clear hw4 hc4 q4 hy4
  rw [rounds_succ]
  go_wp2_with fail
  refine (formOf_any 5 _ (by decide) (by decide)).mono ?_
  rintro e u5 ⟨hb5, y1, y2, y3, rfl, _⟩
  rw [row_5]
  have hy5 := hb5.size
  have hc5 : Below w.heap.size w u5 := hB4.trans (hb5.mono (by omega))
  clear hb5
  by_cases hx5 : x = [98, 101, 103, 105, 110]
  · subst hx5
    go_wp2_with fail
    go_ret
    exact ⟨⟨5, .inl ⟨by decide, by decide, rfl⟩, rfl⟩, hc5.alloc (by omega) _⟩
  have q5 : ([98, 101, 103, 105, 110] == x) = false := by rw [beq_eq_false_iff_ne]; exact fun h => hx5 h.symm
  go_wp2_with fail
  obtain ⟨v5, hw5⟩ : ∃ z, z = u5.alloc (.cells #[.string ⟨#[98, 101, 103, 105, 110]⟩, .func (.func 73) #[] #[], .func (.func 74) #[] #[], .func (.func 75) #[] #[], .func (.func 80) #[] #[], .nilFunc, .nilFunc, .func (.func 81) #[] #[], .func (.func 82) #[] #[], .func (.func 83) #[] #[], .func (.func 88) #[] #[], .nilFunc, .nilFunc, .slice none 0 0] 79) := ⟨_, rfl⟩
  rw [← hw5]
  have hB5 : Below w.heap.size w v5 := by rw [hw5]; exact hc5.alloc (by omega) _
  have hz5 : w.heap.size ≤ v5.heap.size := hB5.size
  clear hw5 hc5 q5 hy5
  rw [rounds_succ]
  go_wp2_with fail
  refine (formOf_any 6 _ (by decide) (by decide)).mono ?_
  rintro e u6 ⟨hb6, y1, y2, y3, rfl, _⟩
  rw [row_6]
  have hy6 := hb6.size
  have hc6 : Below w.heap.size w u6 := hB5.trans (hb6.mono (by omega))
  clear hb6
  by_cases hx6 : x = [115, 101, 110, 100]
  · subst hx6
    go_wp2_with fail
    go_ret
    exact ⟨⟨6, .inl ⟨by decide, by decide, rfl⟩, rfl⟩, hc6.alloc (by omega) _⟩
  have q6 : ([115, 101, 110, 100] == x) = false := by rw [beq_eq_false_iff_ne]; exact fun h => hx6 h.symm
  go_wp2_with fail
  obtain ⟨v6, hw6⟩ : ∃ z, z = u6.alloc (.cells #[.string ⟨#[115, 101, 110, 100]⟩, .func (.func 73) #[] #[], .func (.func 74) #[] #[], .func (.func 75) #[] #[], .func (.func 77) #[] #[], .func (.func 78) #[] #[], .func (.func 79) #[] #[], .func (.func 84) #[] #[], .nilFunc, .nilFunc, .func (.func 88) #[] #[], .nilFunc, .nilFunc, .slice (some ⟨y3, 0, none⟩) 2 2] 79) := ⟨_, rfl⟩
  rw [← hw6]
  have hB6 : Below w.heap.size w v6 := by rw [hw6]; exact hc6.alloc (by omega) _
  have hz6 : w.heap.size ≤ v6.heap.size := hB6.size
  clear hw6 hc6 q6 hy6
  rw [rounds_succ]
  go_wp2_with fail
  refine (formOf_any 7 _ (by decide) (by decide)).mono ?_
  rintro e u7 ⟨hb7, y1, y2, y3, rfl, _⟩
  rw [row_7]
  have hy7 := hb7.size
  have hc7 : Below w.heap.size w u7 := hB6.trans (hb7.mono (by omega))
  clear hb7
  by_cases hx7 : x = [116, 97, 107, 101]
  · subst hx7
    go_wp2_with fail
    go_ret
    exact ⟨⟨7, .inl ⟨by decide, by decide, rfl⟩, rfl⟩, hc7.alloc (by omega) _⟩
  have q7 : ([116, 97, 107, 101] == x) = false := by rw [beq_eq_false_iff_ne]; exact fun h => hx7 h.symm
  go_wp2_with fail
  obtain ⟨v7, hw7⟩ : ∃ z, z = u7.alloc (.cells #[.string ⟨#[116, 97, 107, 101]⟩, .func (.func 73) #[] #[], .func (.func 74) #[] #[], .func (.func 75) #[] #[], .func (.func 89) #[] #[], .func (.func 78) #[] #[], .func (.func 79) #[] #[], .func (.func 84) #[] #[], .nilFunc, .nilFunc, .func (.func 88) #[] #[], .nilFunc, .nilFunc, .slice none 0 0] 79) := ⟨_, rfl⟩
  rw [← hw7]
  have hB7 : Below w.heap.size w v7 := by rw [hw7]; exact hc7.alloc (by omega) _
  have hz7 : w.heap.size ≤ v7.heap.size := hB7.size
  clear hw7 hc7 q7 hy7
  rw [rounds_succ]
  go_wp2_with fail
  refine (formOf_any 8 _ (by decide) (by decide)).mono ?_
  rintro e u8 ⟨hb8, y1, y2, y3, rfl, _⟩
  rw [row_8]
  have hy8 := hb8.size
  have hc8 : Below w.heap.size w u8 := hB7.trans (hb8.mono (by omega))
  clear hb8
  by_cases hx8 : x = [97, 102, 116, 101, 114]
  · subst hx8
    go_wp2_with fail
    go_ret
    exact ⟨⟨8, .inl ⟨by decide, by decide, rfl⟩, rfl⟩, hc8.alloc (by omega) _⟩
  have q8 : ([97, 102, 116, 101, 114] == x) = false := by rw [beq_eq_false_iff_ne]; exact fun h => hx8 h.symm
  go_wp2_with fail
  obtain ⟨v8, hw8⟩ : ∃ z, z = u8.alloc (.cells #[.string ⟨#[97, 102, 116, 101, 114]⟩, .func (.func 73) #[] #[], .func (.func 74) #[] #[], .func (.func 75) #[] #[], .func (.func 89) #[] #[], .func (.func 78) #[] #[], .func (.func 79) #[] #[], .func (.func 81) #[] #[], .func (.func 82) #[] #[], .func (.func 83) #[] #[], .func (.func 90) #[] #[], .func (.func 86) #[] #[], .func (.func 87) #[] #[], .slice none 0 0] 79) := ⟨_, rfl⟩
  rw [← hw8]
  have hB8 : Below w.heap.size w v8 := by rw [hw8]; exact hc8.alloc (by omega) _
  have hz8 : w.heap.size ≤ v8.heap.size := hB8.size
  clear hw8 hc8 q8 hy8
  rw [rounds_succ]
  go_wp2_with fail
  refine (formOf_any 9 _ (by decide) (by decide)).mono ?_
  rintro e u9 ⟨hb9, y1, y2, y3, rfl, _⟩
  rw [row_9]
  have hy9 := hb9.size
  have hc9 : Below w.heap.size w u9 := hB8.trans (hb9.mono (by omega))
  clear hb9
  by_cases hx9 : x = [103, 111]
  · subst hx9
    go_wp2_with fail
    go_ret
    exact ⟨⟨9, .inl ⟨by decide, by decide, rfl⟩, rfl⟩, hc9.alloc (by omega) _⟩
  have q9 : ([103, 111] == x) = false := by rw [beq_eq_false_iff_ne]; exact fun h => hx9 h.symm
  go_wp2_with fail
  obtain ⟨v9, hw9⟩ : ∃ z, z = u9.alloc (.cells #[.string ⟨#[103, 111]⟩, .func (.func 76) #[] #[], .nilFunc, .nilFunc, .func (.func 80) #[] #[], .nilFunc, .nilFunc, .func (.func 81) #[] #[], .func (.func 82) #[] #[], .func (.func 83) #[] #[], .func (.func 88) #[] #[], .nilFunc, .nilFunc, .slice none 0 0] 79) := ⟨_, rfl⟩
  rw [← hw9]
  have hB9 : Below w.heap.size w v9 := by rw [hw9]; exact hc9.alloc (by omega) _
  have hz9 : w.heap.size ≤ v9.heap.size := hB9.size
  clear hw9 hc9 q9 hy9
  rw [rounds_succ]
  go_wp2_with fail
  refine (formOf_any 10 _ (by decide) (by decide)).mono ?_
  rintro e u10 ⟨hb10, y1, y2, y3, rfl, _⟩
  rw [row_10]
  have hy10 := hb10.size
  have hc10 : Below w.heap.size w u10 := hB9.trans (hb10.mono (by omega))
  clear hb10
  by_cases hx10 : x = [105, 102]
  · subst hx10
    go_wp2_with fail
    go_ret
    exact ⟨⟨10, .inl ⟨by decide, by decide, rfl⟩, rfl⟩, hc10.alloc (by omega) _⟩
  have q10 : ([105, 102] == x) = false := by rw [beq_eq_false_iff_ne]; exact fun h => hx10 h.symm
  go_wp2_with fail
  obtain ⟨v10, hw10⟩ : ∃ z, z = u10.alloc (.cells #[.string ⟨#[105, 102]⟩, .func (.func 73) #[] #[], .func (.func 74) #[] #[], .func (.func 75) #[] #[], .func (.func 80) #[] #[], .nilFunc, .nilFunc, .func (.func 81) #[] #[], .func (.func 82) #[] #[], .func (.func 83) #[] #[], .func (.func 85) #[] #[], .func (.func 86) #[] #[], .func (.func 87) #[] #[], .slice (some ⟨y1, 0, none⟩) 1 1] 79) := ⟨_, rfl⟩
  rw [← hw10]
  have hB10 : Below w.heap.size w v10 := by rw [hw10]; exact hc10.alloc (by omega) _
  have hz10 : w.heap.size ≤ v10.heap.size := hB10.size
  clear hw10 hc10 q10 hy10
  rw [rounds_succ]
  go_wp2_with fail
  refine (formOf_any 11 _ (by decide) (by decide)).mono ?_
  rintro e u11 ⟨hb11, y1, y2, y3, rfl, _⟩
  rw [row_11]
  have hy11 := hb11.size
  have hc11 : Below w.heap.size w u11 := hB10.trans (hb11.mono (by omega))
  clear hb11
  by_cases hx11 : x = [108, 105, 110, 107]
  · subst hx11
    go_wp2_with fail
    go_ret
    exact ⟨⟨11, .inl ⟨by decide, by decide, rfl⟩, rfl⟩, hc11.alloc (by omega) _⟩
  have q11 : ([108, 105, 110, 107] == x) = false := by rw [beq_eq_false_iff_ne]; exact fun h => hx11 h.symm
  go_wp2_with fail
  obtain ⟨v11, hw11⟩ : ∃ z, z = u11.alloc (.cells #[.string ⟨#[108, 105, 110, 107]⟩, .func (.func 73) #[] #[], .func (.func 74) #[] #[], .func (.func 75) #[] #[], .func (.func 80) #[] #[], .nilFunc, .nilFunc, .func (.func 84) #[] #[], .nilFunc, .nilFunc, .func (.func 88) #[] #[], .nilFunc, .nilFunc, .slice (some ⟨y1, 0, none⟩) 1 1] 79) := ⟨_, rfl⟩
  rw [← hw11]
  have hB11 : Below w.heap.size w v11 := by rw [hw11]; exact hc11.alloc (by omega) _
  have hz11 : w.heap.size ≤ v11.heap.size := hB11.size
  clear hw11 hc11 q11 hy11
  rw [rounds_succ]
  go_wp2_with fail
  refine (formOf_any 12 _ (by decide) (by decide)).mono ?_
  rintro e u12 ⟨hb12, y1, y2, y3, rfl, _⟩
  rw [row_12]
  have hy12 := hb12.size
  have hc12 : Below w.heap.size w u12 := hB11.trans (hb12.mono (by omega))
  clear hb12
  by_cases hx12 : x = [119, 97, 116, 99, 104]
  · subst hx12
    go_wp2_with fail
    go_ret
    exact ⟨⟨12, .inl ⟨by decide, by decide, rfl⟩, rfl⟩, hc12.alloc (by omega) _⟩
  have q12 : ([119, 97, 116, 99, 104] == x) = false := by rw [beq_eq_false_iff_ne]; exact fun h => hx12 h.symm
  go_wp2_with fail
  obtain ⟨v12, hw12⟩ : ∃ z, z = u12.alloc (.cells #[.string ⟨#[119, 97, 116, 99, 104]⟩, .func (.func 73) #[] #[], .func (.func 74) #[] #[], .func (.func 75) #[] #[], .func (.func 80) #[] #[], .nilFunc, .nilFunc, .func (.func 84) #[] #[], .nilFunc, .nilFunc, .func (.func 88) #[] #[], .nilFunc, .nilFunc, .slice (some ⟨y1, 0, none⟩) 1 1] 79) := ⟨_, rfl⟩
  rw [← hw12]
  have hB12 : Below w.heap.size w v12 := by rw [hw12]; exact hc12.alloc (by omega) _
  have hz12 : w.heap.size ≤ v12.heap.size := hB12.size
  clear hw12 hc12 q12 hy12
  rw [rounds_succ]
  go_wp2_with fail
  refine (formOf_any 13 _ (by decide) (by decide)).mono ?_
  rintro e u13 ⟨hb13, y1, y2, y3, rfl, _⟩
  rw [row_13]
  have hy13 := hb13.size
  have hc13 : Below w.heap.size w u13 := hB12.trans (hb13.mono (by omega))
  clear hb13
  by_cases hx13 : x = [116, 114, 97, 112]
  · subst hx13
    go_wp2_with fail
    go_ret
    exact ⟨⟨13, .inl ⟨by decide, by decide, rfl⟩, rfl⟩, hc13.alloc (by omega) _⟩
  have q13 : ([116, 114, 97, 112] == x) = false := by rw [beq_eq_false_iff_ne]; exact fun h => hx13 h.symm
  go_wp2_with fail
  obtain ⟨v13, hw13⟩ : ∃ z, z = u13.alloc (.cells #[.string ⟨#[116, 114, 97, 112]⟩, .func (.func 76) #[] #[], .nilFunc, .nilFunc, .func (.func 80) #[] #[], .nilFunc, .nilFunc, .func (.func 84) #[] #[], .nilFunc, .nilFunc, .func (.func 91) #[] #[], .func (.func 86) #[] #[], .func (.func 87) #[] #[], .slice none 0 0] 79) := ⟨_, rfl⟩
  rw [← hw13]
  have hB13 : Below w.heap.size w v13 := by rw [hw13]; exact hc13.alloc (by omega) _
  have hz13 : w.heap.size ≤ v13.heap.size := hB13.size
  clear hw13 hc13 q13 hy13
  rw [rounds_succ]
  go_wp2_with fail
  refine (formOf_any 14 _ (by decide) (by decide)).mono ?_
  rintro e u14 ⟨hb14, y1, y2, y3, rfl, _⟩
  rw [row_14]
  have hy14 := hb14.size
  have hc14 : Below w.heap.size w u14 := hB13.trans (hb14.mono (by omega))
  clear hb14
  by_cases hx14 : x = [101, 110, 100]
  · subst hx14
    go_wp2_with fail
    go_ret
    exact ⟨⟨14, .inl ⟨by decide, by decide, rfl⟩, rfl⟩, hc14.alloc (by omega) _⟩
  have q14 : ([101, 110, 100] == x) = false := by rw [beq_eq_false_iff_ne]; exact fun h => hx14 h.symm
  go_wp2_with fail
  obtain ⟨v14, hw14⟩ : ∃ z, z = u14.alloc (.cells #[.string ⟨#[101, 110, 100]⟩, .func (.func 73) #[] #[], .func (.func 74) #[] #[], .func (.func 75) #[] #[], .func (.func 80) #[] #[], .nilFunc, .nilFunc, .func (.func 84) #[] #[], .nilFunc, .nilFunc, .func (.func 88) #[] #[], .nilFunc, .nilFunc, .slice (some ⟨y1, 0, none⟩) 1 1] 79) := ⟨_, rfl⟩
  rw [← hw14]
  have hB14 : Below w.heap.size w v14 := by rw [hw14]; exact hc14.alloc (by omega) _
  have hz14 : w.heap.size ≤ v14.heap.size := hB14.size
  clear hw14 hc14 q14 hy14
  rw [rounds_succ]
  go_wp2_with fail
  go_ret
  refine ⟨⟨0, .inr ⟨rfl, fun j h1 h2 => ?_⟩, rfl⟩, hB14⟩
  rcases kinds14 h1 h2 with rfl | rfl | rfl | rfl | rfl | rfl | rfl | rfl | rfl | rfl | rfl | rfl | rfl | rfl
  · exact hx1
  · exact hx2
  · exact hx3
  · exact hx4
  · exact hx5
  · exact hx6
  · exact hx7
  · exact hx8
  · exact hx9
  · exact hx10
  · exact hx11
  · exact hx12
  · exact hx13
  · exact hx14
end Go.Proofs.YtekmjgkjpdhedaaGreatDoor
