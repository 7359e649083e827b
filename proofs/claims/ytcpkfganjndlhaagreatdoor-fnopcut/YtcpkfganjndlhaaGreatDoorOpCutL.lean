/-
  For every code, FnOpCut answers true: impl.OpText is the specification's at the drawn step; its text without the last byte is read as another step, or as none; with a blank more, behind or ahead, as none. The tables and errors that strconv and utf8 read are as their initialisers lay them.
-/
import Derived.Test.YtcpkfganjndlhaaGreatDoorOpReadUse
import Derived.Test.YtcpkfganjndlhaaGreatDoorOpSpecText
import Derived.Test.YtcpkfganjndlhaaGreatDoorOpImplText
import Derived.Test.YtcpkfganjndlhaaGreatDoorFrameR
import Derived.Test.YtcpkfganjndlhaaGreatDoorOpDrawnT
import Derived.Test.YtcpkfganjndlhaaGreatDoorFcFnOpCut
namespace Go.Proofs.YtcpkfganjndlhaaGreatDoor
open Go.ChangeShapes Go.WideShapes Go.ChangeAt Go.RowKit Go.Joins
namespace OpCutL
theorem cat_blank (t : List UInt8) : (ByteArray.mk t.toArray) ++ (ByteArray.mk #[32]) = ⟨(t ++ [32]).toArray⟩ := cat t [32]
theorem blank_cat (t : List UInt8) : (ByteArray.mk #[32]) ++ (ByteArray.mk t.toArray) = ⟨(32 :: t).toArray⟩ := cat [32] t
theorem drop_last (t : List UInt8) : (ByteArray.mk t.toArray).extract 0 (t.length - 1) = ⟨t.dropLast.toArray⟩ := by
  apply ByteArray.ext
  rw [ByteArray.data_extract]
  apply Array.ext'
  simp [List.dropLast_eq_take]
/-- the text without its last byte is read as another step, or as none -/
theorem cut_some (k r s t a b : Int) (h : opB k r s t a b = true) : ∃ k2 r2 s2 t2 a2 b2 q, (q = true → ¬ (k2 = k ∧ r2 = r ∧ s2 = s ∧ t2 = t ∧ a2 = a ∧ b2 = b)) ∧ ReadIs (opTxt k r s t a b).dropLast k2 r2 s2 t2 a2 b2 q := by
  obtain ⟨k2, r2, s2, t2, a2, b2, q, hr⟩ := read_some (opTxt k r s t a b).dropLast
  refine ⟨k2, r2, s2, t2, a2, b2, q, fun hq hh => ?_, hr⟩
  obtain ⟨rfl, rfl, rfl, rfl, rfl, rfl⟩ := hh
  rcases hr with ⟨_, _, e⟩ | ⟨e, _⟩
  · exact opTxt_drop h e
  · rw [hq] at e; simp at e
set_option maxHeartbeats 4000000 in
theorem walk_in (a0 : Option Addr) (len0 cap0 : Nat) (w : World) (h0 : Code0 w a0 len0 cap0) (hT : Tab w) (hE : Errs w) (hM : Max w) (hl0 : len0 ≤ 1048576) :
    Calls Tryz.prog 5 #[.slice a0 len0 cap0] w fun e w' => e = .returned (.bool true) ∧ Below w.heap.size w w' := by
  have g0 : ¬ (1048576 : Int) < (len0 : Int) := by omega
  go_enter Tryz.func5, Tryz.ntmps5
  go_wp2_with fail
  refine (drawOpText_any a0 len0 cap0 _ h0).mono ?_
  rintro e w1 ⟨k, r, s, t, a, b, rfl, hb1⟩
  have hz1 := hb1.size
  replace hT := (hT.below hb1).below ((Below.refl _ _).alloc (Nat.le_refl _) (.cells #[.int .i64 k, .int .i64 r, .int .i64 s, .int .i64 t, .int .i64 a, .int .i64 b] 26))
  replace hE := (hE.below hb1).below ((Below.refl _ _).alloc (Nat.le_refl _) (.cells #[.int .i64 k, .int .i64 r, .int .i64 s, .int .i64 t, .int .i64 a, .int .i64 b] 26))
  replace hM := (hM.below hb1).below ((Below.refl _ _).alloc (Nat.le_refl _) (.cells #[.int .i64 k, .int .i64 r, .int .i64 s, .int .i64 t, .int .i64 a, .int .i64 b] 26))
  have hB1 : Below w.heap.size w w1 := hb1
  clear hb1
  go_wp2_with fail
  refine (implOpText_any _ _ _ _ _ _ _ hT).mono ?_
  rintro e w2 ⟨rfl, hb2⟩
  replace hT := hT.below hb2
  replace hE := hE.below hb2
  replace hM := hM.below hb2
  obtain ⟨hc2, hf2⟩ := bcell hb2
  have hz2 := hb2.size
  try simp at hz2
  have xp0w2 : w2.cell? ⟨w1.heap.size, 0, none⟩ = some (.int .i64 k) := by rw [hc2 _ _ (by (try simp) <;> omega)]; first | assumption | (rw [World.cell?_alloc_past _ _ _ (by omega)]; assumption) | (rw [World.cell?_alloc_past _ _ _ (by (try simp) <;> omega), World.cell?_alloc_past _ _ _ (by omega)]; assumption) | (simp [go_sem]; done)
  have xp1w2 : w2.cell? ⟨w1.heap.size, 1, none⟩ = some (.int .i64 r) := by rw [hc2 _ _ (by (try simp) <;> omega)]; first | assumption | (rw [World.cell?_alloc_past _ _ _ (by omega)]; assumption) | (rw [World.cell?_alloc_past _ _ _ (by (try simp) <;> omega), World.cell?_alloc_past _ _ _ (by omega)]; assumption) | (simp [go_sem]; done)
  have xp2w2 : w2.cell? ⟨w1.heap.size, 2, none⟩ = some (.int .i64 s) := by rw [hc2 _ _ (by (try simp) <;> omega)]; first | assumption | (rw [World.cell?_alloc_past _ _ _ (by omega)]; assumption) | (rw [World.cell?_alloc_past _ _ _ (by (try simp) <;> omega), World.cell?_alloc_past _ _ _ (by omega)]; assumption) | (simp [go_sem]; done)
  have xp3w2 : w2.cell? ⟨w1.heap.size, 3, none⟩ = some (.int .i64 t) := by rw [hc2 _ _ (by (try simp) <;> omega)]; first | assumption | (rw [World.cell?_alloc_past _ _ _ (by omega)]; assumption) | (rw [World.cell?_alloc_past _ _ _ (by (try simp) <;> omega), World.cell?_alloc_past _ _ _ (by omega)]; assumption) | (simp [go_sem]; done)
  have xp4w2 : w2.cell? ⟨w1.heap.size, 4, none⟩ = some (.int .i64 a) := by rw [hc2 _ _ (by (try simp) <;> omega)]; first | assumption | (rw [World.cell?_alloc_past _ _ _ (by omega)]; assumption) | (rw [World.cell?_alloc_past _ _ _ (by (try simp) <;> omega), World.cell?_alloc_past _ _ _ (by omega)]; assumption) | (simp [go_sem]; done)
  have xp5w2 : w2.cell? ⟨w1.heap.size, 5, none⟩ = some (.int .i64 b) := by rw [hc2 _ _ (by (try simp) <;> omega)]; first | assumption | (rw [World.cell?_alloc_past _ _ _ (by omega)]; assumption) | (rw [World.cell?_alloc_past _ _ _ (by (try simp) <;> omega), World.cell?_alloc_past _ _ _ (by omega)]; assumption) | (simp [go_sem]; done)
  have lpw2 : w1.heap.size < w2.heap.size := by omega
  clear hc2 hf2
  have hB2 : Below w.heap.size w w2 := (hB1.alloc (by omega) _).trans (hb2.mono (by (try simp) <;> omega))
  clear hb2
  go_wp2_with fail
  refine (specOpText_any _ _ _ _ _ _ _).mono ?_
  rintro e w3 ⟨rfl, hb3⟩
  replace hT := hT.below hb3
  replace hE := hE.below hb3
  replace hM := hM.below hb3
  obtain ⟨hc3, hf3⟩ := bcell hb3
  have hz3 := hb3.size
  try simp at hz3
  have xp0w3 : w3.cell? ⟨w1.heap.size, 0, none⟩ = some (.int .i64 k) := by rw [hc3 _ _ (by (try simp) <;> omega)]; first | assumption | (rw [World.cell?_alloc_past _ _ _ (by omega)]; assumption) | (rw [World.cell?_alloc_past _ _ _ (by (try simp) <;> omega), World.cell?_alloc_past _ _ _ (by omega)]; assumption) | (simp [go_sem]; done)
  have xp1w3 : w3.cell? ⟨w1.heap.size, 1, none⟩ = some (.int .i64 r) := by rw [hc3 _ _ (by (try simp) <;> omega)]; first | assumption | (rw [World.cell?_alloc_past _ _ _ (by omega)]; assumption) | (rw [World.cell?_alloc_past _ _ _ (by (try simp) <;> omega), World.cell?_alloc_past _ _ _ (by omega)]; assumption) | (simp [go_sem]; done)
  have xp2w3 : w3.cell? ⟨w1.heap.size, 2, none⟩ = some (.int .i64 s) := by rw [hc3 _ _ (by (try simp) <;> omega)]; first | assumption | (rw [World.cell?_alloc_past _ _ _ (by omega)]; assumption) | (rw [World.cell?_alloc_past _ _ _ (by (try simp) <;> omega), World.cell?_alloc_past _ _ _ (by omega)]; assumption) | (simp [go_sem]; done)
  have xp3w3 : w3.cell? ⟨w1.heap.size, 3, none⟩ = some (.int .i64 t) := by rw [hc3 _ _ (by (try simp) <;> omega)]; first | assumption | (rw [World.cell?_alloc_past _ _ _ (by omega)]; assumption) | (rw [World.cell?_alloc_past _ _ _ (by (try simp) <;> omega), World.cell?_alloc_past _ _ _ (by omega)]; assumption) | (simp [go_sem]; done)
  have xp4w3 : w3.cell? ⟨w1.heap.size, 4, none⟩ = some (.int .i64 a) := by rw [hc3 _ _ (by (try simp) <;> omega)]; first | assumption | (rw [World.cell?_alloc_past _ _ _ (by omega)]; assumption) | (rw [World.cell?_alloc_past _ _ _ (by (try simp) <;> omega), World.cell?_alloc_past _ _ _ (by omega)]; assumption) | (simp [go_sem]; done)
  have xp5w3 : w3.cell? ⟨w1.heap.size, 5, none⟩ = some (.int .i64 b) := by rw [hc3 _ _ (by (try simp) <;> omega)]; first | assumption | (rw [World.cell?_alloc_past _ _ _ (by omega)]; assumption) | (rw [World.cell?_alloc_past _ _ _ (by (try simp) <;> omega), World.cell?_alloc_past _ _ _ (by omega)]; assumption) | (simp [go_sem]; done)
  have lpw3 : w1.heap.size < w3.heap.size := by omega
  clear hc3 hf3
  clear xp0w2 xp1w2 xp2w2 xp3w2 xp4w2 xp5w2
  have hB3 : Below w.heap.size w w3 := hB2.trans (hb3.mono (by omega))
  clear hb3
  cases hok : opB k r s t a b with
  | false =>
    have t1 := opTxt_bad hok
    go_wp2_with fail
    refine (specOpText_any _ _ _ _ _ _ _).mono ?_
    rintro e w6 ⟨rfl, hb6⟩
    go_wp2_with fail
    go_ret
    exact ⟨by simp, hB3.trans (hb6.mono (by omega))⟩
  | true =>
    have t1 : (opTxt k r s t a b).isEmpty = false := by rw [List.isEmpty_eq_false_iff]; exact opTxt_some hok
    have tl := opTxt_len hok
    have tp : 0 < (opTxt k r s t a b).length := List.length_pos_iff.2 (opTxt_some hok)
    have i1 : (0 : Int) ≤ ((opTxt k r s t a b).length : Int) - 1 := by omega
    have i2 : ((opTxt k r s t a b).length : Int) - 1 ≤ ((opTxt k r s t a b).length : Int) := by omega
    have i3 : (((opTxt k r s t a b).length : Int) - 1).toNat = (opTxt k r s t a b).length - 1 := by omega
    have i4 : ¬ 9223372036854775807 < (opTxt k r s t a b).length + 1 := by omega
    have i5 : ¬ 9223372036854775807 < 1 + (opTxt k r s t a b).length := by omega
    obtain ⟨k2, r2, s2, t2, a2, b2, q, hne, C⟩ := cut_some k r s t a b hok
    have HC := (show Hid _ from C)
    have HN := (show Hid _ from hne)
    clear C hne
    have RB : Hid (ReadIs (opTxt k r s t a b ++ [32]) 0 0 0 0 0 0 false) := ReadIs.none (fun _ _ _ _ _ _ ho => opTxt_last ho _)
    have RA : Hid (ReadIs (32 :: opTxt k r s t a b) 0 0 0 0 0 0 false) := ReadIs.none (fun _ _ _ _ _ _ ho => opTxt_first ho _)
    generalize hO : opTxt k r s t a b = O at *
    replace hO := (show Hid _ from hO)
    clear hok
    go_wp2_with fail
    simp only [drop_last]
    refine (implRead_of HC.out _ hT hE hM).mono ?_
    rintro e w4 ⟨rfl, hb4⟩
    replace hT := (hT.below hb4).below ((Below.refl _ _).alloc (Nat.le_refl _) (.cells #[.int .i64 k2, .int .i64 r2, .int .i64 s2, .int .i64 t2, .int .i64 a2, .int .i64 b2] 26))
    replace hE := (hE.below hb4).below ((Below.refl _ _).alloc (Nat.le_refl _) (.cells #[.int .i64 k2, .int .i64 r2, .int .i64 s2, .int .i64 t2, .int .i64 a2, .int .i64 b2] 26))
    replace hM := (hM.below hb4).below ((Below.refl _ _).alloc (Nat.le_refl _) (.cells #[.int .i64 k2, .int .i64 r2, .int .i64 s2, .int .i64 t2, .int .i64 a2, .int .i64 b2] 26))
    obtain ⟨hc4, hf4⟩ := bcell hb4
    have hz4 := hb4.size
    try simp at hz4
    have xp0w4 : w4.cell? ⟨w1.heap.size, 0, none⟩ = some (.int .i64 k) := by rw [hc4 _ _ (by (try simp) <;> omega)]; first | assumption | (rw [World.cell?_alloc_past _ _ _ (by omega)]; assumption) | (rw [World.cell?_alloc_past _ _ _ (by (try simp) <;> omega), World.cell?_alloc_past _ _ _ (by omega)]; assumption) | (simp [go_sem]; done)
    have xp1w4 : w4.cell? ⟨w1.heap.size, 1, none⟩ = some (.int .i64 r) := by rw [hc4 _ _ (by (try simp) <;> omega)]; first | assumption | (rw [World.cell?_alloc_past _ _ _ (by omega)]; assumption) | (rw [World.cell?_alloc_past _ _ _ (by (try simp) <;> omega), World.cell?_alloc_past _ _ _ (by omega)]; assumption) | (simp [go_sem]; done)
    have xp2w4 : w4.cell? ⟨w1.heap.size, 2, none⟩ = some (.int .i64 s) := by rw [hc4 _ _ (by (try simp) <;> omega)]; first | assumption | (rw [World.cell?_alloc_past _ _ _ (by omega)]; assumption) | (rw [World.cell?_alloc_past _ _ _ (by (try simp) <;> omega), World.cell?_alloc_past _ _ _ (by omega)]; assumption) | (simp [go_sem]; done)
    have xp3w4 : w4.cell? ⟨w1.heap.size, 3, none⟩ = some (.int .i64 t) := by rw [hc4 _ _ (by (try simp) <;> omega)]; first | assumption | (rw [World.cell?_alloc_past _ _ _ (by omega)]; assumption) | (rw [World.cell?_alloc_past _ _ _ (by (try simp) <;> omega), World.cell?_alloc_past _ _ _ (by omega)]; assumption) | (simp [go_sem]; done)
    have xp4w4 : w4.cell? ⟨w1.heap.size, 4, none⟩ = some (.int .i64 a) := by rw [hc4 _ _ (by (try simp) <;> omega)]; first | assumption | (rw [World.cell?_alloc_past _ _ _ (by omega)]; assumption) | (rw [World.cell?_alloc_past _ _ _ (by (try simp) <;> omega), World.cell?_alloc_past _ _ _ (by omega)]; assumption) | (simp [go_sem]; done)
    have xp5w4 : w4.cell? ⟨w1.heap.size, 5, none⟩ = some (.int .i64 b) := by rw [hc4 _ _ (by (try simp) <;> omega)]; first | assumption | (rw [World.cell?_alloc_past _ _ _ (by omega)]; assumption) | (rw [World.cell?_alloc_past _ _ _ (by (try simp) <;> omega), World.cell?_alloc_past _ _ _ (by omega)]; assumption) | (simp [go_sem]; done)
    have lpw4 : w1.heap.size < w4.heap.size := by omega
    clear hc4 hf4
    clear xp0w3 xp1w3 xp2w3 xp3w3 xp4w3 xp5w3
    have hB4 : Below w.heap.size w w4 := hB3.trans (hb4.mono (by omega))
    clear hb4
    go_wp2_with fail
    simp only [cat_blank]
    refine (implRead_of RB.out _ hT hE hM).mono ?_
    rintro e w5 ⟨rfl, hb5⟩
    replace hT := (hT.below hb5).below ((Below.refl _ _).alloc (Nat.le_refl _) (.cells #[.int .i64 0, .int .i64 0, .int .i64 0, .int .i64 0, .int .i64 0, .int .i64 0] 26))
    replace hE := (hE.below hb5).below ((Below.refl _ _).alloc (Nat.le_refl _) (.cells #[.int .i64 0, .int .i64 0, .int .i64 0, .int .i64 0, .int .i64 0, .int .i64 0] 26))
    replace hM := (hM.below hb5).below ((Below.refl _ _).alloc (Nat.le_refl _) (.cells #[.int .i64 0, .int .i64 0, .int .i64 0, .int .i64 0, .int .i64 0, .int .i64 0] 26))
    obtain ⟨hc5, hf5⟩ := bcell hb5
    have hz5 := hb5.size
    try simp at hz5
    have xp0w5 : w5.cell? ⟨w1.heap.size, 0, none⟩ = some (.int .i64 k) := by rw [hc5 _ _ (by (try simp) <;> omega)]; first | assumption | (rw [World.cell?_alloc_past _ _ _ (by omega)]; assumption) | (rw [World.cell?_alloc_past _ _ _ (by (try simp) <;> omega), World.cell?_alloc_past _ _ _ (by omega)]; assumption) | (simp [go_sem]; done)
    have xp1w5 : w5.cell? ⟨w1.heap.size, 1, none⟩ = some (.int .i64 r) := by rw [hc5 _ _ (by (try simp) <;> omega)]; first | assumption | (rw [World.cell?_alloc_past _ _ _ (by omega)]; assumption) | (rw [World.cell?_alloc_past _ _ _ (by (try simp) <;> omega), World.cell?_alloc_past _ _ _ (by omega)]; assumption) | (simp [go_sem]; done)
    have xp2w5 : w5.cell? ⟨w1.heap.size, 2, none⟩ = some (.int .i64 s) := by rw [hc5 _ _ (by (try simp) <;> omega)]; first | assumption | (rw [World.cell?_alloc_past _ _ _ (by omega)]; assumption) | (rw [World.cell?_alloc_past _ _ _ (by (try simp) <;> omega), World.cell?_alloc_past _ _ _ (by omega)]; assumption) | (simp [go_sem]; done)
    have xp3w5 : w5.cell? ⟨w1.heap.size, 3, none⟩ = some (.int .i64 t) := by rw [hc5 _ _ (by (try simp) <;> omega)]; first | assumption | (rw [World.cell?_alloc_past _ _ _ (by omega)]; assumption) | (rw [World.cell?_alloc_past _ _ _ (by (try simp) <;> omega), World.cell?_alloc_past _ _ _ (by omega)]; assumption) | (simp [go_sem]; done)
    have xp4w5 : w5.cell? ⟨w1.heap.size, 4, none⟩ = some (.int .i64 a) := by rw [hc5 _ _ (by (try simp) <;> omega)]; first | assumption | (rw [World.cell?_alloc_past _ _ _ (by omega)]; assumption) | (rw [World.cell?_alloc_past _ _ _ (by (try simp) <;> omega), World.cell?_alloc_past _ _ _ (by omega)]; assumption) | (simp [go_sem]; done)
    have xp5w5 : w5.cell? ⟨w1.heap.size, 5, none⟩ = some (.int .i64 b) := by rw [hc5 _ _ (by (try simp) <;> omega)]; first | assumption | (rw [World.cell?_alloc_past _ _ _ (by omega)]; assumption) | (rw [World.cell?_alloc_past _ _ _ (by (try simp) <;> omega), World.cell?_alloc_past _ _ _ (by omega)]; assumption) | (simp [go_sem]; done)
    have lpw5 : w1.heap.size < w5.heap.size := by omega
    have xq0w5 : w5.cell? ⟨w4.heap.size, 0, none⟩ = some (.int .i64 k2) := by rw [hc5 _ _ (by (try simp) <;> omega)]; first | assumption | (rw [World.cell?_alloc_past _ _ _ (by omega)]; assumption) | (rw [World.cell?_alloc_past _ _ _ (by (try simp) <;> omega), World.cell?_alloc_past _ _ _ (by omega)]; assumption) | (simp [go_sem]; done)
    have xq1w5 : w5.cell? ⟨w4.heap.size, 1, none⟩ = some (.int .i64 r2) := by rw [hc5 _ _ (by (try simp) <;> omega)]; first | assumption | (rw [World.cell?_alloc_past _ _ _ (by omega)]; assumption) | (rw [World.cell?_alloc_past _ _ _ (by (try simp) <;> omega), World.cell?_alloc_past _ _ _ (by omega)]; assumption) | (simp [go_sem]; done)
    have xq2w5 : w5.cell? ⟨w4.heap.size, 2, none⟩ = some (.int .i64 s2) := by rw [hc5 _ _ (by (try simp) <;> omega)]; first | assumption | (rw [World.cell?_alloc_past _ _ _ (by omega)]; assumption) | (rw [World.cell?_alloc_past _ _ _ (by (try simp) <;> omega), World.cell?_alloc_past _ _ _ (by omega)]; assumption) | (simp [go_sem]; done)
    have xq3w5 : w5.cell? ⟨w4.heap.size, 3, none⟩ = some (.int .i64 t2) := by rw [hc5 _ _ (by (try simp) <;> omega)]; first | assumption | (rw [World.cell?_alloc_past _ _ _ (by omega)]; assumption) | (rw [World.cell?_alloc_past _ _ _ (by (try simp) <;> omega), World.cell?_alloc_past _ _ _ (by omega)]; assumption) | (simp [go_sem]; done)
    have xq4w5 : w5.cell? ⟨w4.heap.size, 4, none⟩ = some (.int .i64 a2) := by rw [hc5 _ _ (by (try simp) <;> omega)]; first | assumption | (rw [World.cell?_alloc_past _ _ _ (by omega)]; assumption) | (rw [World.cell?_alloc_past _ _ _ (by (try simp) <;> omega), World.cell?_alloc_past _ _ _ (by omega)]; assumption) | (simp [go_sem]; done)
    have xq5w5 : w5.cell? ⟨w4.heap.size, 5, none⟩ = some (.int .i64 b2) := by rw [hc5 _ _ (by (try simp) <;> omega)]; first | assumption | (rw [World.cell?_alloc_past _ _ _ (by omega)]; assumption) | (rw [World.cell?_alloc_past _ _ _ (by (try simp) <;> omega), World.cell?_alloc_past _ _ _ (by omega)]; assumption) | (simp [go_sem]; done)
    have lqw5 : w4.heap.size < w5.heap.size := by omega
    clear hc5 hf5
    clear xp0w4 xp1w4 xp2w4 xp3w4 xp4w4 xp5w4
    have hB5 : Below w.heap.size w w5 := (hB4.alloc (by omega) _).trans (hb5.mono (by (try simp) <;> omega))
    clear hb5
    go_wp2_with fail
    simp only [blank_cat]
    refine (implRead_of RA.out _ hT hE hM).mono ?_
    rintro e w6 ⟨rfl, hb6⟩
    obtain ⟨hc6, hf6⟩ := bcell hb6
    have hz6 := hb6.size
    try simp at hz6
    have xp0w6 : w6.cell? ⟨w1.heap.size, 0, none⟩ = some (.int .i64 k) := by rw [hc6 _ _ (by (try simp) <;> omega)]; first | assumption | (rw [World.cell?_alloc_past _ _ _ (by omega)]; assumption) | (rw [World.cell?_alloc_past _ _ _ (by (try simp) <;> omega), World.cell?_alloc_past _ _ _ (by omega)]; assumption) | (simp [go_sem]; done)
    have xp1w6 : w6.cell? ⟨w1.heap.size, 1, none⟩ = some (.int .i64 r) := by rw [hc6 _ _ (by (try simp) <;> omega)]; first | assumption | (rw [World.cell?_alloc_past _ _ _ (by omega)]; assumption) | (rw [World.cell?_alloc_past _ _ _ (by (try simp) <;> omega), World.cell?_alloc_past _ _ _ (by omega)]; assumption) | (simp [go_sem]; done)
    have xp2w6 : w6.cell? ⟨w1.heap.size, 2, none⟩ = some (.int .i64 s) := by rw [hc6 _ _ (by (try simp) <;> omega)]; first | assumption | (rw [World.cell?_alloc_past _ _ _ (by omega)]; assumption) | (rw [World.cell?_alloc_past _ _ _ (by (try simp) <;> omega), World.cell?_alloc_past _ _ _ (by omega)]; assumption) | (simp [go_sem]; done)
    have xp3w6 : w6.cell? ⟨w1.heap.size, 3, none⟩ = some (.int .i64 t) := by rw [hc6 _ _ (by (try simp) <;> omega)]; first | assumption | (rw [World.cell?_alloc_past _ _ _ (by omega)]; assumption) | (rw [World.cell?_alloc_past _ _ _ (by (try simp) <;> omega), World.cell?_alloc_past _ _ _ (by omega)]; assumption) | (simp [go_sem]; done)
    have xp4w6 : w6.cell? ⟨w1.heap.size, 4, none⟩ = some (.int .i64 a) := by rw [hc6 _ _ (by (try simp) <;> omega)]; first | assumption | (rw [World.cell?_alloc_past _ _ _ (by omega)]; assumption) | (rw [World.cell?_alloc_past _ _ _ (by (try simp) <;> omega), World.cell?_alloc_past _ _ _ (by omega)]; assumption) | (simp [go_sem]; done)
    have xp5w6 : w6.cell? ⟨w1.heap.size, 5, none⟩ = some (.int .i64 b) := by rw [hc6 _ _ (by (try simp) <;> omega)]; first | assumption | (rw [World.cell?_alloc_past _ _ _ (by omega)]; assumption) | (rw [World.cell?_alloc_past _ _ _ (by (try simp) <;> omega), World.cell?_alloc_past _ _ _ (by omega)]; assumption) | (simp [go_sem]; done)
    have lpw6 : w1.heap.size < w6.heap.size := by omega
    have xq0w6 : w6.cell? ⟨w4.heap.size, 0, none⟩ = some (.int .i64 k2) := by rw [hc6 _ _ (by (try simp) <;> omega)]; first | assumption | (rw [World.cell?_alloc_past _ _ _ (by omega)]; assumption) | (rw [World.cell?_alloc_past _ _ _ (by (try simp) <;> omega), World.cell?_alloc_past _ _ _ (by omega)]; assumption) | (simp [go_sem]; done)
    have xq1w6 : w6.cell? ⟨w4.heap.size, 1, none⟩ = some (.int .i64 r2) := by rw [hc6 _ _ (by (try simp) <;> omega)]; first | assumption | (rw [World.cell?_alloc_past _ _ _ (by omega)]; assumption) | (rw [World.cell?_alloc_past _ _ _ (by (try simp) <;> omega), World.cell?_alloc_past _ _ _ (by omega)]; assumption) | (simp [go_sem]; done)
    have xq2w6 : w6.cell? ⟨w4.heap.size, 2, none⟩ = some (.int .i64 s2) := by rw [hc6 _ _ (by (try simp) <;> omega)]; first | assumption | (rw [World.cell?_alloc_past _ _ _ (by omega)]; assumption) | (rw [World.cell?_alloc_past _ _ _ (by (try simp) <;> omega), World.cell?_alloc_past _ _ _ (by omega)]; assumption) | (simp [go_sem]; done)
    have xq3w6 : w6.cell? ⟨w4.heap.size, 3, none⟩ = some (.int .i64 t2) := by rw [hc6 _ _ (by (try simp) <;> omega)]; first | assumption | (rw [World.cell?_alloc_past _ _ _ (by omega)]; assumption) | (rw [World.cell?_alloc_past _ _ _ (by (try simp) <;> omega), World.cell?_alloc_past _ _ _ (by omega)]; assumption) | (simp [go_sem]; done)
    have xq4w6 : w6.cell? ⟨w4.heap.size, 4, none⟩ = some (.int .i64 a2) := by rw [hc6 _ _ (by (try simp) <;> omega)]; first | assumption | (rw [World.cell?_alloc_past _ _ _ (by omega)]; assumption) | (rw [World.cell?_alloc_past _ _ _ (by (try simp) <;> omega), World.cell?_alloc_past _ _ _ (by omega)]; assumption) | (simp [go_sem]; done)
    have xq5w6 : w6.cell? ⟨w4.heap.size, 5, none⟩ = some (.int .i64 b2) := by rw [hc6 _ _ (by (try simp) <;> omega)]; first | assumption | (rw [World.cell?_alloc_past _ _ _ (by omega)]; assumption) | (rw [World.cell?_alloc_past _ _ _ (by (try simp) <;> omega), World.cell?_alloc_past _ _ _ (by omega)]; assumption) | (simp [go_sem]; done)
    have lqw6 : w4.heap.size < w6.heap.size := by omega
    clear hc6 hf6
    clear xp0w5 xp1w5 xp2w5 xp3w5 xp4w5 xp5w5
    clear xq0w5 xq1w5 xq2w5 xq3w5 xq4w5 xq5w5
    have hB6 : Below w.heap.size w w6 := (hB5.alloc (by omega) _).trans (hb6.mono (by (try simp) <;> omega))
    clear hb6 hT hE hM
    cases q with
    | false =>
      go_wp2_with fail
      go_ret
      exact ⟨rfl, hB6.alloc (by omega) _⟩
    | true =>
      have hk2 := HN.out rfl
      by_cases e1 : k2 = k
      · subst e1
        by_cases e2 : r2 = r
        · subst e2
          by_cases e3 : s2 = s
          · subst e3
            by_cases e4 : t2 = t
            · subst e4
              by_cases e5 : a2 = a
              · subst e5
                have e6 : (b2 == b) = false := by rw [beq_eq_false_iff_ne]; exact fun hh => hk2 ⟨rfl, rfl, rfl, rfl, rfl, hh⟩
                clear hk2
                go_wp2_with fail
                all_goals go_ret
                all_goals exact ⟨rfl, hB6.alloc (by omega) _⟩
              · have e5' : (a2 == a) = false := by rw [beq_eq_false_iff_ne]; exact e5
                clear hk2 e5
                go_wp2_with fail
                all_goals go_ret
                all_goals exact ⟨rfl, hB6.alloc (by omega) _⟩
            · have e4' : (t2 == t) = false := by rw [beq_eq_false_iff_ne]; exact e4
              clear hk2 e4
              go_wp2_with fail
              all_goals go_ret
              all_goals exact ⟨rfl, hB6.alloc (by omega) _⟩
          · have e3' : (s2 == s) = false := by rw [beq_eq_false_iff_ne]; exact e3
            clear hk2 e3
            go_wp2_with fail
            all_goals go_ret
            all_goals exact ⟨rfl, hB6.alloc (by omega) _⟩
        · have e2' : (r2 == r) = false := by rw [beq_eq_false_iff_ne]; exact e2
          clear hk2 e2
          go_wp2_with fail
          all_goals go_ret
          all_goals exact ⟨rfl, hB6.alloc (by omega) _⟩
      · have e1' : (k2 == k) = false := by rw [beq_eq_false_iff_ne]; exact e1
        clear hk2 e1
        go_wp2_with fail
        all_goals go_ret
        all_goals exact ⟨rfl, hB6.alloc (by omega) _⟩
set_option maxHeartbeats 400000 in
theorem walk (a0 : Option Addr) (len0 cap0 : Nat) (w : World) (h0 : Code0 w a0 len0 cap0) (hT : Tab w) (hE : Errs w) (hM : Max w) :
    Calls Tryz.prog 5 #[.slice a0 len0 cap0] w fun e w' => e = .returned (.bool true) ∧ Below w.heap.size w w' := by
  by_cases hl0 : len0 ≤ 1048576
  · exact walk_in a0 len0 cap0 w h0 hT hE hM hl0
  · have g0 : (1048576 : Int) < (len0 : Int) := by omega
    go_enter Tryz.func5, Tryz.ntmps5
    go_wp2_with fail
    go_ret
    exact ⟨rfl, Below.refl _ _⟩

set_option maxRecDepth 20000 in
theorem contract (H : Type) (enc : TypeId × Value → H) (W : World) (base : Nat) (args : Array Value) (ds gs : List (DataW H)) (before : List MemPlace)
    (hval : ∀ (j : Nat) t v, Tryz.f5.params[j]? = some t → args[j]? = some v → Value.okWide Tryz.prog W .any base t v)
    (hW : DataW.Whole enc Tryz.prog Tryz.f5.params.toList Rows.fnOpCutSpec.vars false W args.toList ds gs before) (hL : laidMetH Tryz.prog Rows.fnOpCutRow.laid W) (hO : W.ShapedOpen Tryz.prog) :
    Calls Tryz.prog 5 args W fun e W' => ∃ v, e = .returned v ∧ Rows.fnOpCutSpec.post enc Tryz.prog Tryz.f5 false true false false W args v W' := by
  have hT : Tab W := tab_of hL (by kernel_rfl)
  have hE : Errs W := errs_of hL (by kernel_rfl) (by kernel_rfl)
  have hM : Max W := laysSplit.s1_3 W hO
  have hW' := hW
  obtain ⟨p, q, hA0, hV, rfl, hfz, hnd⟩ := hW
  have hA : DataW.TrodAll enc Tryz.prog W 0 (fun _ => true) true Tryz.f5.params.toList args.toList ds p := hA0
  rw [Tryz.params5] at hA hval
  obtain ⟨v0, vs0, d0, ds0, p0, q0, hargs, rfl, rfl, h0, r0⟩ := trodAll_cons hA
  obtain ⟨rfl, rfl, rfl⟩ := trodAll_nil r0
  obtain rfl : args = #[v0] := by cases args; simp_all
  obtain ⟨rfl, rfl⟩ := trodVars_none hV
  obtain ⟨a0, len0, cap0, rfl⟩ := okWide_slice Tryz.underlying22 (hval 0 22 v0 rfl rfl)
  have k0 := h0
  have lt0 : ∀ x ∈ p0, x.block < W.heap.size := by obtain ⟨m, hm⟩ := k0; exact DataW.trod_lt m _ _ _ hm
  have w0 : Code0 W a0 len0 cap0 := by
    obtain ⟨fuel, hf⟩ := h0
    rcases open_ints Tryz.underlying22 Tryz.underlying5 (by kernel_rfl) hf with ⟨hcs, _⟩ | ⟨x, l, c, zs, hcs, _, hl, hm, hz, _, hcell, hwz⟩
    · simp [Value.cells] at hcs
      obtain ⟨rfl, rfl, rfl⟩ := hcs
      exact code_of_row (zs := []) (.inl ⟨rfl, rfl, rfl, rfl⟩)
    · simp [Value.cells] at hcs
      obtain ⟨rfl, rfl, rfl⟩ := hcs
      exact code_of_row (zs := zs) (.inr ⟨_, rfl, hl, hm, by simpa using hz, hcell, hwz⟩)
  clear hA0
  refine (walk a0 len0 cap0 W w0 hT hE hM).mono fun e W' ⟨he, bel⟩ => ?_
  subst he
  exact ⟨_, rfl, _, _, _, [], _, [], hW', trodAll_mk1 (shut_bool Tryz.underlying4 _), (trodAll_cons_mk (Below.trod laidOut (by kernel_rfl) (of_decide_eq_true (by kernel_rfl)) k0 bel lt0) trodAll_mk0), rfl, bel.frame _, fun h => by cases h⟩
theorem laid_met (os : Os) : laidMet Tryz.prog Rows.fnOpCutRow.laid ((putMore (World.settled Tryz.prog os).heap.size (World.holding Tryz.prog os ⟨errBlocks, #[], []⟩)).forCall (fun _ _ => 0) ⟨#[], #[.slice none 0 0], []⟩).memory :=
  laidMet_of_run' 10 (by kernel_rfl) (by kernel_rfl)
theorem reads (os : Os) {H : Type} (enc : TypeId × Value → H) : ∃ places, DataW.whole enc Tryz.prog ((putMore (World.settled Tryz.prog os).heap.size (World.holding Tryz.prog os ⟨errBlocks, #[], []⟩)).forCall (fun _ _ => 0) ⟨#[], #[.slice none 0 0], []⟩).memory Tryz.f5.params.toList Rows.fnOpCutSpec.vars false #[.slice none 0 0].toList 8 = some ([.nil], [], places) :=
  ⟨[], by kernel_rfl⟩
set_option maxRecDepth 100000 in
theorem lifted (os : Os) (started : os.Started) (H : Type) (enc : TypeId × Value → H) (F : Stop.Interp) :
    ReturnsInHanded {} Tryz.checked os 5 .any ((OpenSpec.ofChange Rows.fnOpCutSpec).preRow enc Tryz.prog Tryz.f5 Rows.fnOpCutRow.domain false Rows.fnOpCutRow.laid) (((OpenSpec.ofChange Rows.fnOpCutSpec).at F).post enc Tryz.prog Tryz.f5 false true false false) := by
  obtain ⟨places, hx⟩ := reads os enc
  refine returnsInHanded_of_row (C := Tryz.checked) (s := OpenSpec.ofChange Rows.fnOpCutSpec) own started (by kernel_rfl) Tryz.func5
    (witness_row_atRef (enc := enc) (C := Tryz.checked) false (putMore (World.settled Tryz.prog os).heap.size (World.holding Tryz.prog os ⟨errBlocks, #[], []⟩)) #[.slice none 0 0] rfl (by kernel_rfl) (by kernel_rfl) (by kernel_rfl)
      (OpenSpec.preRow_of_cond 8 hx (by kernel_rfl) (fun k hk => by cases hk) (by kernel_rfl) (laid_met os))) ?_
  intro W base args ds gs before hval hW _ _ _ hL hO _
  exact contract H enc W base args ds gs before hval hW hL hO
set_option maxRecDepth 100000 in
theorem said : Rows.FnOpCutSaid :=
  OpenClaim.holds_of_cond 5 Tryz.f5 rfl rfl rfl rfl rfl rfl rfl ⟨rfl, rfl, rfl, rfl, rfl⟩ rfl rfl rfl rfl rfl (by kernel_rfl) Tryz.func5 FcFnOpCut.closed
    (of_decide_eq_true (by kernel_rfl)) (by unfold Func.isWrapper; first | (rw [if_pos (by decide +kernel)]; kernel_rfl) | (rw [if_neg (by decide +kernel)]; exact ⟨rfl, rfl⟩))
    (fun os started H enc _ F => by rw [OpenClaim.pre_eq_preRow]; exact lifted os started H enc F)
theorem plain (f : FuncId) (fn : Func) (hf : Tryz.pinned.checked.prog.funcNamed Rows.fnOpCutRow.func = some f) (hfn : Tryz.pinned.checked.prog.funcs[f]? = some fn) :
    true = Tryz.pinned.checked.prog.looks [] ∧ ∀ (j : Nat) t, fn.params[j]? = some t → Tryz.pinned.checked.prog.wantsStandIn t = false := by
  obtain rfl : f = 5 := Option.some.inj ((show Tryz.prog.funcNamed Rows.fnOpCutRow.func = some 5 by kernel_rfl).symm.trans hf) |>.symm
  obtain rfl : fn = Tryz.f5 := (Option.some.inj (Tryz.func5.symm.trans hfn)).symm
  refine ⟨by kernel_rfl, fun j t ht => ?_⟩
  rw [Tryz.params5] at ht
  obtain rfl : t = 22 := by simpa using Array.mem_of_getElem? ht
  exact (show Tryz.prog.wantsStandIn 22 = false by kernel_rfl)
theorem card : Rows.FnOpCutCardSaid :=
  Claim7.holds_tied_plain_at .later [] _ _ _ _ said (fun _ h => by cases h) (by kernel_rfl) (fun _ h => by cases h) fnOpCut_row_tie rfl ⟨rfl, rfl⟩ (by kernel_rfl) rfl plain (by kernel_rfl)
end OpCutL

/-- the given statement -/
theorem opCutL_holds : Rows.FnOpCutCardSaid := OpCutL.card
#print axioms opCutL_holds
end Go.Proofs.YtcpkfganjndlhaaGreatDoor
