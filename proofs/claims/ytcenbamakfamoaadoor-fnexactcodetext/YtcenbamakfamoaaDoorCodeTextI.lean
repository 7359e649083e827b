/-
  What impl.CodeText answers over this translation: the steps' text; nothing that was there turns. The table that strconv reads is as its initialiser lays it.
-/
import Derived.Test.YtcenbamakfamoaaDoorCodeTextS
import Derived.Test.YtcenbamakfamoaaDoorOpImplText
import Derived.Test.YtcenbamakfamoaaDoorCodeOkI
namespace Go.Proofs.YtcenbamakfamoaaDoor
open Go.ChangeShapes Go.WideShapes Go.ChangeAt Go.RowKit Go.Joins
set_option maxHeartbeats 4000000 in
theorem implCodeText_any (C : List OpV) (ao : Option Addr) (cap : Nat) (w : World) (hl : C.length ≤ 1048576) (h : CodeAt w ao C) (hTab : Tab w) :
    Calls Tryd.prog 11 #[.slice ao C.length cap] w fun e w' => e = .returned (.string ⟨(codeTxt C).toArray⟩) ∧ Below w.heap.size w w' := by
  go_enter Tryd.func11, Tryd.ntmps11
  go_wp2_with fail
  refine (implCodeOk_any C ao cap _ hl h).mono ?_
  rintro e w1 ⟨rfl, hb1⟩
  have hz1 := hb1.size
  cases hC : codeB C with
  | false =>
    go_wp2_with fail
    go_ret
    exact ⟨by rw [codeTxt, hC]; rfl, hb1⟩
  | true =>
  have hT : Hid (codeTxt C = linesOf C) := by show codeTxt C = linesOf C; rw [codeTxt, if_pos hC]
  have hl16 := (codeB_well hC).2.1
  have hcode := h.below hb1
  go_wp2_with fail
  go_loopw [3, 11] (fun s i wr => ∃ k : Nat, k ≤ C.length ∧ i = .int .i64 k ∧ s = .string ⟨(linesOf (C.take k)).toArray⟩ ∧ Below w1.heap.size w1 wr) (fun _ i _ => C.length - (intOf i).toNat)
  case atStart => exact ⟨0, Nat.zero_le _, rfl, rfl, Below.refl _ _⟩
  case round =>
    obtain ⟨k, hk, rfl, rfl, hB⟩ := hrel
    have hzr := hB.size
    by_cases hlt : k < C.length
    · rcases hcode.below hB with rfl | ⟨b, o, rfl, hbl, hs⟩
      · exact absurd hlt (by simp)
      have st := hs k hlt
      have hln := lines_len C hC k hk
      have hop := opTxt_len ((codeB_well hC).2.2 k hlt)
      have hst : Hid (linesOf (C.take (k + 1)) = linesOf (C.take k) ++ (C[k].txt ++ [10])) := lines_take C k hlt
      have hcall := implOpText_any C[k].k C[k].r C[k].s C[k].t C[k].a C[k].b
      have hX : Hid (C[k].txt = opTxt C[k].k C[k].r C[k].s C[k].t C[k].a C[k].b) := rfl
      generalize linesOf (C.take k) = T at *
      generalize C[k] = op at *
      obtain ⟨c0, c1, c2, c3, c4, c5⟩ := st
      clear hs
      go_wp2_with fail
      refine (hcall _ (hTab.below (hb1.trans ((hB.mono (by omega)).alloc (by omega) _)))).mono ?_
      rintro e w2 ⟨rfl, hb2⟩
      have hB2 : Below w1.heap.size w1 w2 := (hB.alloc hzr _).trans (hb2.mono (by simp; omega))
      rw [← hX.out] at *
      have hop' : op.txt.length ≤ 22 := by rw [hX.out]; exact hop
      generalize op.txt = X at *
      clear hcall hop hX
      go_wp2_with fail
      go_roundw
      case rel => exact ⟨k + 1, by omega, by go_num, by rw [hst.out, ← cat_line2], hB2⟩
      case measure => simp [intOf]; omega
    · have e : k = C.length := by omega
      subst e
      rw [List.take_length]
      go_wp2_with fail
      go_ret
      exact ⟨by rw [hT.out]; rfl, hb1.trans (hB.mono (by omega))⟩
end Go.Proofs.YtcenbamakfamoaaDoor
