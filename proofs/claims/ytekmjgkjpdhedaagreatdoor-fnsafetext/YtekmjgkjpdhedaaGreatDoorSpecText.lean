/-
  What the specification's ValText answers, for every value.
-/
import Derived.Test.YtekmjgkjpdhedaaGreatDoorText
namespace Go.Proofs.YtekmjgkjpdhedaaGreatDoor
open Go.ChangeShapes Go.WideShapes Go.ChangeAt Go.RowKit Go.Joins
attribute [local go_sem ↓] Go.wp_at_zero Go.wp_at_succ
set_option maxRecDepth 100000 in
set_option maxHeartbeats 4000000 in
theorem specText_num (n : Int) (w : World) (h : okB 1 n = true) :
    Calls Tryz.prog 51 #[.agg #[.int .i64 1, .int .i64 n]] w fun e w' => e = .returned (.string ⟨(txt 1 n).toArray⟩) ∧ Below w.heap.size w w' := by
  have hbd := okB_bd h
  have hl := itoa_len n hbd.1 hbd.2
  have hl' : ¬ 9223372036854775807 < 1 + (Lib.itoa n).length := by omega
  have HF : Hid ((⟨#[110]⟩ : ByteArray) ++ ⟨(Lib.itoa n).toArray⟩ = ⟨(txt 1 n).toArray⟩) := by
    show (⟨#[110]⟩ : ByteArray) ++ ⟨(Lib.itoa n).toArray⟩ = ⟨(txt 1 n).toArray⟩
    rw [txt_num h]; exact cat [110] (Lib.itoa n)
  go_enter Tryz.func51, Tryz.ntmps51
  go_wp2_with fail
  refine (specOk_any _ _ _).mono ?_
  rintro e w1 ⟨rfl, hb1⟩
  obtain ⟨hc1, hf1⟩ := bcell hb1
  have hz1 := hb1.size
  simp at hz1
  have x0 : w1.cell? ⟨w.heap.size, 0, none⟩ = some (.int .i64 1) := by rw [hc1 _ _ (by simp)]; simp [go_sem]
  have x1 : w1.cell? ⟨w.heap.size, 1, none⟩ = some (.int .i64 n) := by rw [hc1 _ _ (by simp)]; simp [go_sem]
  have hB1 : Below w.heap.size w w1 := ((Below.refl _ _).alloc (Nat.le_refl _) _).trans (hb1.mono (by simp))
  have hlt : w.heap.size < w1.heap.size := by omega
  have hlt1 : w.heap.size < w1.heap.size + 1 := by omega
  clear hc1 hf1 hb1
  go_wp2_with fail
  go_region_with (go_at_call 50; refine (dec_any n _ hbd.1 hbd.2).mono ?_; rintro e w2 ⟨rfl, hb2⟩; have h9 := hb2.size; simp at h9; have hlt2 : w.heap.size < w2.heap.size := (by omega); have y0 : w2.cell? ⟨w.heap.size, 0, none⟩ = some (.int .i64 1) := ((hb2.cell (p := ⟨w.heap.size, 0, none⟩) (by (try simp) <;> omega)).trans (by simp [go_sem, *])); have y1 : w2.cell? ⟨w.heap.size, 1, none⟩ = some (.int .i64 n) := ((hb2.cell (p := ⟨w.heap.size, 1, none⟩) (by (try simp) <;> omega)).trans (by simp [go_sem, *])); obtain ⟨hc2, hf2⟩ := bcell hb2)
  all_goals go_wp2_with fail
  all_goals go_ret
  all_goals refine ⟨congrArg (fun x => Ending.returned (.string x)) HF.out, ?_⟩
  all_goals first | exact (hB1.drew.trans (hb2.mono (by (try simp) <;> omega))).alloc (by have := hb2.size; (try simp at this); omega) _ | exact ((hB1.alloc (by omega) _).drew).trans (hb2.mono (by (try simp) <;> omega))
set_option maxRecDepth 100000 in
set_option maxHeartbeats 4000000 in
theorem specText_name (n : Int) (w : World) (h : okB 2 n = true) :
    Calls Tryz.prog 51 #[.agg #[.int .i64 2, .int .i64 n]] w fun e w' => e = .returned (.string ⟨(txt 2 n).toArray⟩) ∧ Below w.heap.size w w' := by
  have hbd := okB_bd h
  have hl := itoa_len n hbd.1 hbd.2
  have hl' : ¬ 9223372036854775807 < 1 + (Lib.itoa n).length := by omega
  have HF : Hid ((⟨#[97]⟩ : ByteArray) ++ ⟨(Lib.itoa n).toArray⟩ = ⟨(txt 2 n).toArray⟩) := by
    show (⟨#[97]⟩ : ByteArray) ++ ⟨(Lib.itoa n).toArray⟩ = ⟨(txt 2 n).toArray⟩
    rw [txt_name h]; exact cat [97] (Lib.itoa n)
  go_enter Tryz.func51, Tryz.ntmps51
  go_wp2_with fail
  refine (specOk_any _ _ _).mono ?_
  rintro e w1 ⟨rfl, hb1⟩
  obtain ⟨hc1, hf1⟩ := bcell hb1
  have hz1 := hb1.size
  simp at hz1
  have x0 : w1.cell? ⟨w.heap.size, 0, none⟩ = some (.int .i64 2) := by rw [hc1 _ _ (by simp)]; simp [go_sem]
  have x1 : w1.cell? ⟨w.heap.size, 1, none⟩ = some (.int .i64 n) := by rw [hc1 _ _ (by simp)]; simp [go_sem]
  have hB1 : Below w.heap.size w w1 := ((Below.refl _ _).alloc (Nat.le_refl _) _).trans (hb1.mono (by simp))
  have hlt : w.heap.size < w1.heap.size := by omega
  have hlt1 : w.heap.size < w1.heap.size + 1 := by omega
  clear hc1 hf1 hb1
  go_wp2_with fail
  go_region_with (go_at_call 50; refine (dec_any n _ hbd.1 hbd.2).mono ?_; rintro e w2 ⟨rfl, hb2⟩; have h9 := hb2.size; simp at h9; have hlt2 : w.heap.size < w2.heap.size := (by omega); have y0 : w2.cell? ⟨w.heap.size, 0, none⟩ = some (.int .i64 2) := ((hb2.cell (p := ⟨w.heap.size, 0, none⟩) (by (try simp) <;> omega)).trans (by simp [go_sem, *])); have y1 : w2.cell? ⟨w.heap.size, 1, none⟩ = some (.int .i64 n) := ((hb2.cell (p := ⟨w.heap.size, 1, none⟩) (by (try simp) <;> omega)).trans (by simp [go_sem, *])); obtain ⟨hc2, hf2⟩ := bcell hb2)
  all_goals go_wp2_with fail
  all_goals go_ret
  all_goals refine ⟨congrArg (fun x => Ending.returned (.string x)) HF.out, ?_⟩
  all_goals first | exact (hB1.drew.trans (hb2.mono (by (try simp) <;> omega))).alloc (by have := hb2.size; (try simp at this); omega) _ | exact ((hB1.alloc (by omega) _).drew).trans (hb2.mono (by (try simp) <;> omega))
set_option maxRecDepth 100000 in
set_option maxHeartbeats 4000000 in
theorem specText_run (n : Int) (w : World) (h : okB 3 n = true) :
    Calls Tryz.prog 51 #[.agg #[.int .i64 3, .int .i64 n]] w fun e w' => e = .returned (.string ⟨(txt 3 n).toArray⟩) ∧ Below w.heap.size w w' := by
  have hbd := okB_bd h
  have hl := itoa_len n hbd.1 hbd.2
  have hl' : ¬ 9223372036854775807 < 1 + (Lib.itoa n).length := by omega
  have HF : Hid ((⟨#[114]⟩ : ByteArray) ++ ⟨(Lib.itoa n).toArray⟩ = ⟨(txt 3 n).toArray⟩) := by
    show (⟨#[114]⟩ : ByteArray) ++ ⟨(Lib.itoa n).toArray⟩ = ⟨(txt 3 n).toArray⟩
    rw [txt_run h]; exact cat [114] (Lib.itoa n)
  go_enter Tryz.func51, Tryz.ntmps51
  go_wp2_with fail
  refine (specOk_any _ _ _).mono ?_
  rintro e w1 ⟨rfl, hb1⟩
  obtain ⟨hc1, hf1⟩ := bcell hb1
  have hz1 := hb1.size
  simp at hz1
  have x0 : w1.cell? ⟨w.heap.size, 0, none⟩ = some (.int .i64 3) := by rw [hc1 _ _ (by simp)]; simp [go_sem]
  have x1 : w1.cell? ⟨w.heap.size, 1, none⟩ = some (.int .i64 n) := by rw [hc1 _ _ (by simp)]; simp [go_sem]
  have hB1 : Below w.heap.size w w1 := ((Below.refl _ _).alloc (Nat.le_refl _) _).trans (hb1.mono (by simp))
  have hlt : w.heap.size < w1.heap.size := by omega
  have hlt1 : w.heap.size < w1.heap.size + 1 := by omega
  clear hc1 hf1 hb1
  go_wp2_with fail
  go_region_with (go_at_call 50; refine (dec_any n _ hbd.1 hbd.2).mono ?_; rintro e w2 ⟨rfl, hb2⟩; have h9 := hb2.size; simp at h9; have hlt2 : w.heap.size < w2.heap.size := (by omega); have y0 : w2.cell? ⟨w.heap.size, 0, none⟩ = some (.int .i64 3) := ((hb2.cell (p := ⟨w.heap.size, 0, none⟩) (by (try simp) <;> omega)).trans (by simp [go_sem, *])); have y1 : w2.cell? ⟨w.heap.size, 1, none⟩ = some (.int .i64 n) := ((hb2.cell (p := ⟨w.heap.size, 1, none⟩) (by (try simp) <;> omega)).trans (by simp [go_sem, *])); obtain ⟨hc2, hf2⟩ := bcell hb2)
  all_goals go_wp2_with fail
  all_goals go_ret
  all_goals refine ⟨congrArg (fun x => Ending.returned (.string x)) HF.out, ?_⟩
  all_goals first | exact (hB1.drew.trans (hb2.mono (by (try simp) <;> omega))).alloc (by have := hb2.size; (try simp at this); omega) _ | exact ((hB1.alloc (by omega) _).drew).trans (hb2.mono (by (try simp) <;> omega))
set_option maxHeartbeats 1000000 in
theorem specText_none (n : Int) (w : World) (h : okB 0 n = true) :
    Calls Tryz.prog 51 #[.agg #[.int .i64 0, .int .i64 n]] w fun e w' => e = .returned (.string ⟨(txt 0 n).toArray⟩) ∧ Below w.heap.size w w' := by
  rw [txt_none h]
  go_enter Tryz.func51, Tryz.ntmps51
  go_wp2_with fail
  refine (specOk_any _ _ _).mono ?_
  rintro e w1 ⟨rfl, hb1⟩
  obtain ⟨hc1, hf1⟩ := bcell hb1
  go_wp2_with fail
  go_ret
  exact ⟨rfl, ((Below.refl _ _).alloc (Nat.le_refl _) _).trans (hb1.mono (by simp))⟩
set_option maxHeartbeats 1000000 in
theorem specText_bad (k n : Int) (w : World) (h : okB k n = false) :
    Calls Tryz.prog 51 #[.agg #[.int .i64 k, .int .i64 n]] w fun e w' => e = .returned (.string ⟨(txt k n).toArray⟩) ∧ Below w.heap.size w w' := by
  rw [txt_bad h]
  go_enter Tryz.func51, Tryz.ntmps51
  go_wp2_with fail
  refine (specOk_any _ _ _).mono ?_
  rintro e w1 ⟨rfl, hb1⟩
  go_wp2_with fail
  go_ret
  exact ⟨rfl, ((Below.refl _ _).alloc (Nat.le_refl _) _).trans (hb1.mono (by simp))⟩
theorem specText_any (k n : Int) (w : World) :
    Calls Tryz.prog 51 #[.agg #[.int .i64 k, .int .i64 n]] w fun e w' => e = .returned (.string ⟨(txt k n).toArray⟩) ∧ Below w.heap.size w w' := by
  cases h : okB k n with
  | false => exact specText_bad k n w h
  | true =>
    rcases okB_kinds h with rfl | rfl | rfl | rfl
    · exact specText_none n w h
    · exact specText_num n w h
    · exact specText_name n w h
    · exact specText_run n w h
end Go.Proofs.YtekmjgkjpdhedaaGreatDoor
