/-
  What spec.CodeText answers over this translation: the steps' text; nothing that was there turns.
-/
import Derived.Test.YtcenbamakfamoaaDoorOpSpecText
import Derived.Test.YtcenbamakfamoaaDoorOpCut
import Derived.Test.YtcenbamakfamoaaDoorCodeOkS
namespace Go.Proofs.YtcenbamakfamoaaDoor
open Go.ChangeShapes Go.WideShapes Go.ChangeAt Go.RowKit Go.Joins
def OpV.txt (o : OpV) : List UInt8 := opTxt o.k o.r o.s o.t o.a o.b
/-- the lines of steps -/
def linesOf (C : List OpV) : List UInt8 := C.flatMap fun o => o.txt ++ [10]
def codeTxt (C : List OpV) : List UInt8 := if codeB C = true then linesOf C else []
theorem lines_take (C : List OpV) (k : Nat) (h : k < C.length) : linesOf (C.take (k + 1)) = linesOf (C.take k) ++ (C[k].txt ++ [10]) := by
  unfold linesOf
  rw [List.take_add_one, List.getElem?_eq_getElem h, List.flatMap_append]; simp
theorem lines_len (C : List OpV) (hC : codeB C = true) : ∀ k, k ≤ C.length → (linesOf (C.take k)).length ≤ 23 * k
  | 0, _ => by simp [linesOf]
  | k + 1, h => by
    have ih := lines_len C hC k (by omega)
    have hk : k < C.length := by omega
    have := opTxt_len ((codeB_well hC).2.2 k hk)
    rw [lines_take C k hk]
    simp [OpV.txt] at this ⊢
    omega
theorem cat_line (a x : List UInt8) : ((⟨a.toArray⟩ : ByteArray) ++ ⟨x.toArray⟩) ++ (⟨#[10]⟩ : ByteArray) = ⟨(a ++ (x ++ [10])).toArray⟩ := by
  rw [show (⟨#[10]⟩ : ByteArray) = ⟨[(10 : UInt8)].toArray⟩ from rfl, cat, cat, List.append_assoc]
theorem cat_line2 (a x : List UInt8) : (⟨a.toArray⟩ : ByteArray) ++ (⟨x.toArray⟩ ++ (⟨#[10]⟩ : ByteArray)) = ⟨(a ++ (x ++ [10])).toArray⟩ := by
  rw [show (⟨#[10]⟩ : ByteArray) = ⟨[(10 : UInt8)].toArray⟩ from rfl, cat, cat]
set_option maxHeartbeats 4000000 in
theorem specCodeText_any (C : List OpV) (ao : Option Addr) (cap : Nat) (w : World) (hl : C.length ≤ 1048576) (h : CodeAt w ao C) :
    Calls Tryd.prog 10 #[.slice ao C.length cap] w fun e w' => e = .returned (.string ⟨(codeTxt C).toArray⟩) ∧ Below w.heap.size w w' := by
  go_enter Tryd.func10, Tryd.ntmps10
  go_wp2_with fail
  refine (specCodeOk_any C ao cap _ hl h).mono ?_
  rintro e w1 ⟨rfl, hb1⟩
  have hz1 := hb1.size
  cases hC : codeB C with
  | false =>
    go_wp2_with fail
    go_ret
    exact ⟨by rw [codeTxt, hC]; rfl, hb1⟩
  | true =>
  have hT : Hid (codeTxt C = linesOf C) := by show codeTxt C = linesOf C; rw [codeTxt, if_pos hC]
  have hl16 := (codeB_well hC).2.1
  have hcode := h.below hb1
  go_wp2_with fail
  go_loopw [3, 4] (fun s i wr => ∃ k : Nat, k ≤ C.length ∧ i = .int .i64 k ∧ s = .string ⟨(linesOf (C.take k)).toArray⟩ ∧ Below w1.heap.size w1 wr) (fun _ i _ => C.length - (intOf i).toNat)
  case atStart => exact ⟨0, Nat.zero_le _, rfl, rfl, Below.refl _ _⟩
  case round =>
    obtain ⟨k, hk, rfl, rfl, hB⟩ := hrel
    have hzr := hB.size
    by_cases hlt : k < C.length
    · rcases hcode.below hB with rfl | ⟨b, o, rfl, hbl, hs⟩
      · exact absurd hlt (by simp)
      have st := hs k hlt
      have hln := lines_len C hC k hk
      have hop := opTxt_len ((codeB_well hC).2.2 k hlt)
      have hst : Hid (linesOf (C.take (k + 1)) = linesOf (C.take k) ++ (C[k].txt ++ [10])) := lines_take C k hlt
      have hcall := specOpText_any C[k].k C[k].r C[k].s C[k].t C[k].a C[k].b
      have hX : Hid (C[k].txt = opTxt C[k].k C[k].r C[k].s C[k].t C[k].a C[k].b) := rfl
      generalize linesOf (C.take k) = T at *
      generalize C[k] = op at *
      obtain ⟨c0, c1, c2, c3, c4, c5⟩ := st
      clear hs
      go_wp2_with fail
      refine (hcall _).mono ?_
      rintro e w2 ⟨rfl, hb2⟩
      have hB2 : Below w1.heap.size w1 w2 := hB.trans (hb2.mono hzr)
      rw [← hX.out] at *
      have hop' : op.txt.length ≤ 22 := by rw [hX.out]; exact hop
      generalize op.txt = X at *
      clear hcall hop hX
      go_wp2_with fail
      go_roundw
      case rel => exact ⟨k + 1, by omega, by go_num, by rw [hst.out, ← cat_line], hB2⟩
      case measure => simp [intOf]; omega
    · have e : k = C.length := by omega
      subst e
      rw [List.take_length]
      go_wp2_with fail
      go_ret
      exact ⟨by rw [hT.out]; rfl, hb1.trans (hB.mono (by omega))⟩
end Go.Proofs.YtcenbamakfamoaaDoor
