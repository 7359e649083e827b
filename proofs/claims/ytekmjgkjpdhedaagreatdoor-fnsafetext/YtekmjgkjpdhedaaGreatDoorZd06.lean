/-
  What spec.CodeText answers over this translation: the steps' text; nothing that was there turns.
  What impl.CodeText answers over this translation: the steps' text; nothing that was there turns. The table that strconv reads is as its initialiser lays it.
  What spec.DrawCodeSafe answers over this translation, and laws.lvInts of numbers that are the same; nothing that was there turns.
-/
import Derived.Test.YtekmjgkjpdhedaaGreatDoorOpSpecText
import Derived.Test.YtekmjgkjpdhedaaGreatDoorOpCut
import Derived.Test.YtekmjgkjpdhedaaGreatDoorCodeOkS
import Derived.Test.YtekmjgkjpdhedaaGreatDoorLines
import Derived.Test.YtekmjgkjpdhedaaGreatDoorOpImplText
import Derived.Test.YtekmjgkjpdhedaaGreatDoorCodeOkI
import Derived.Test.YtekmjgkjpdhedaaGreatDoorZc04
import Derived.Test.YtekmjgkjpdhedaaGreatDoorZc03
namespace Go.Proofs.YtekmjgkjpdhedaaGreatDoor
open Go.ChangeShapes Go.WideShapes Go.ChangeAt Go.RowKit Go.Joins
theorem cat_line (a x : List UInt8) : ((⟨a.toArray⟩ : ByteArray) ++ ⟨x.toArray⟩) ++ (⟨#[10]⟩ : ByteArray) = ⟨(a ++ (x ++ [10])).toArray⟩ := by
  rw [show (⟨#[10]⟩ : ByteArray) = ⟨[(10 : UInt8)].toArray⟩ from rfl, cat, cat, List.append_assoc]
theorem cat_line2 (a x : List UInt8) : (⟨a.toArray⟩ : ByteArray) ++ (⟨x.toArray⟩ ++ (⟨#[10]⟩ : ByteArray)) = ⟨(a ++ (x ++ [10])).toArray⟩ := by
  rw [show (⟨#[10]⟩ : ByteArray) = ⟨[(10 : UInt8)].toArray⟩ from rfl, cat, cat]
set_option maxHeartbeats 4000000 in
theorem specCodeText_any (C : List OpV) (ao : Option Addr) (cap : Nat) (w : World) (hl : C.length ≤ 1048576) (h : CodeAt w ao C) :
    Calls Tryz.prog 9 #[.slice ao C.length cap] w fun e w' => e = .returned (.string ⟨(codeTxt C).toArray⟩) ∧ Below w.heap.size w w' := by
  go_enter Tryz.func9, Tryz.ntmps9
  go_wp2_with fail
  refine (specCodeOk_any C ao cap _ hl h).mono ?_
  rintro e w1 ⟨rfl, hb1⟩
  have hz1 := hb1.size
  cases hC : codeB C with
  | false =>
    go_wp2_with fail
    go_ret
    exact ⟨by rw [codeTxt, hC]; rfl, hb1⟩
  | true =>
  have hT : Hid (codeTxt C = linesOf C) := by show codeTxt C = linesOf C; rw [codeTxt, if_pos hC]
  have hl16 := (codeB_well hC).2.1
  have hcode := h.below hb1
  go_wp2_with fail
  go_loopw [3, 4] (fun s i wr => ∃ k : Nat, k ≤ C.length ∧ i = .int .i64 k ∧ s = .string ⟨(linesOf (C.take k)).toArray⟩ ∧ Below w1.heap.size w1 wr) (fun _ i _ => C.length - (intOf i).toNat)
  case atStart => exact ⟨0, Nat.zero_le _, rfl, rfl, Below.refl _ _⟩
  case round =>
    obtain ⟨k, hk, rfl, rfl, hB⟩ := hrel
    have hzr := hB.size
    by_cases hlt : k < C.length
    · rcases hcode.below hB with rfl | ⟨b, o, rfl, hbl, hs⟩
      · exact absurd hlt (by simp)
      have st := hs k hlt
      have hln := lines_len C hC k hk
      have hop := opTxt_len ((codeB_well hC).2.2 k hlt)
      have hst : Hid (linesOf (C.take (k + 1)) = linesOf (C.take k) ++ (C[k].txt ++ [10])) := lines_take C k hlt
      have hcall := specOpText_any C[k].k C[k].r C[k].s C[k].t C[k].a C[k].b
      have hX : Hid (C[k].txt = opTxt C[k].k C[k].r C[k].s C[k].t C[k].a C[k].b) := rfl
      generalize linesOf (C.take k) = T at *
      generalize C[k] = op at *
      obtain ⟨c0, c1, c2, c3, c4, c5⟩ := st
      clear hs
      go_wp2_with fail
      refine (hcall _).mono ?_
      rintro e w2 ⟨rfl, hb2⟩
      have hB2 : Below w1.heap.size w1 w2 := hB.trans (hb2.mono hzr)
      rw [← hX.out] at *
      have hop' : op.txt.length ≤ 22 := by rw [hX.out]; exact hop
      generalize op.txt = X at *
      clear hcall hop hX
      go_wp2_with fail
      go_roundw
      case rel => exact ⟨k + 1, by omega, by go_num, by rw [hst.out, ← cat_line], hB2⟩
      case measure => simp [intOf]; omega
    · have e : k = C.length := by omega
      subst e
      rw [List.take_length]
      go_wp2_with fail
      go_ret
      exact ⟨by rw [hT.out]; rfl, hb1.trans (hB.mono (by omega))⟩
end Go.Proofs.YtekmjgkjpdhedaaGreatDoor
namespace Go.Proofs.YtekmjgkjpdhedaaGreatDoor
open Go.ChangeShapes Go.WideShapes Go.ChangeAt Go.RowKit Go.Joins
set_option maxHeartbeats 4000000 in
theorem implCodeText_any (C : List OpV) (ao : Option Addr) (cap : Nat) (w : World) (hl : C.length ≤ 1048576) (h : CodeAt w ao C) (hTab : Tab w) :
    Calls Tryz.prog 8 #[.slice ao C.length cap] w fun e w' => e = .returned (.string ⟨(codeTxt C).toArray⟩) ∧ Below w.heap.size w w' := by
  go_enter Tryz.func8, Tryz.ntmps8
  go_wp2_with fail
  refine (implCodeOk_any C ao cap _ hl h).mono ?_
  rintro e w1 ⟨rfl, hb1⟩
  have hz1 := hb1.size
  cases hC : codeB C with
  | false =>
    go_wp2_with fail
    go_ret
    exact ⟨by rw [codeTxt, hC]; rfl, hb1⟩
  | true =>
  have hT : Hid (codeTxt C = linesOf C) := by show codeTxt C = linesOf C; rw [codeTxt, if_pos hC]
  have hl16 := (codeB_well hC).2.1
  have hcode := h.below hb1
  go_wp2_with fail
  go_loopw [3, 11] (fun s i wr => ∃ k : Nat, k ≤ C.length ∧ i = .int .i64 k ∧ s = .string ⟨(linesOf (C.take k)).toArray⟩ ∧ Below w1.heap.size w1 wr) (fun _ i _ => C.length - (intOf i).toNat)
  case atStart => exact ⟨0, Nat.zero_le _, rfl, rfl, Below.refl _ _⟩
  case round =>
    obtain ⟨k, hk, rfl, rfl, hB⟩ := hrel
    have hzr := hB.size
    by_cases hlt : k < C.length
    · rcases hcode.below hB with rfl | ⟨b, o, rfl, hbl, hs⟩
      · exact absurd hlt (by simp)
      have st := hs k hlt
      have hln := lines_len C hC k hk
      have hop := opTxt_len ((codeB_well hC).2.2 k hlt)
      have hst : Hid (linesOf (C.take (k + 1)) = linesOf (C.take k) ++ (C[k].txt ++ [10])) := lines_take C k hlt
      have hcall := implOpText_any C[k].k C[k].r C[k].s C[k].t C[k].a C[k].b
      have hX : Hid (C[k].txt = opTxt C[k].k C[k].r C[k].s C[k].t C[k].a C[k].b) := rfl
      generalize linesOf (C.take k) = T at *
      generalize C[k] = op at *
      obtain ⟨c0, c1, c2, c3, c4, c5⟩ := st
      clear hs
      go_wp2_with fail
      refine (hcall _ (hTab.below (hb1.trans ((hB.mono (by omega)).alloc (by omega) _)))).mono ?_
      rintro e w2 ⟨rfl, hb2⟩
      have hB2 : Below w1.heap.size w1 w2 := (hB.alloc hzr _).trans (hb2.mono (by simp; omega))
      rw [← hX.out] at *
      have hop' : op.txt.length ≤ 22 := by rw [hX.out]; exact hop
      generalize op.txt = X at *
      clear hcall hop hX
      go_wp2_with fail
      go_roundw
      case rel => exact ⟨k + 1, by omega, by go_num, by rw [hst.out, ← cat_line2], hB2⟩
      case measure => simp [intOf]; omega
    · have e : k = C.length := by omega
      subst e
      rw [List.take_length]
      go_wp2_with fail
      go_ret
      exact ⟨by rw [hT.out]; rfl, hb1.trans (hB.mono (by omega))⟩
end Go.Proofs.YtekmjgkjpdhedaaGreatDoor
namespace Go.Proofs.YtekmjgkjpdhedaaGreatDoor
open Go.ChangeShapes Go.WideShapes Go.ChangeAt Go.RowKit Go.Joins
section
attribute [local go_sem ↓] Go.wp_at_zero Go.wp_at_succ
theorem But.new {R : Nat} {w w' : World} (h : But R w w') {B : Nat} (hB : B ≤ R) (hz : B ≤ w.heap.size) : Below B w w' := h.below hB hz
set_option maxRecDepth 20000 in
set_option maxHeartbeats 4000000 in
theorem drawSafe_any (a : Option Addr) (len cap : Nat) (w : World) (h : Code0 w a len cap) :
    Calls Tryz.prog 15 #[.slice a len cap] w fun e w' => ∃ (C : List OpV) (v : Value), e = .returned v ∧ C.length ≤ 17 ∧ OwnsO w' w.heap.size v C ∧ Below w.heap.size w w' := by
  go_enter Tryz.func15, Tryz.ntmps15
  go_wp2_with fail
  refine (open_any a len cap _ h).mono ?_
  rintro e w1 ⟨rfl, hb1, hR1⟩
  have hz1 := hb1.size
  go_wp2_with fail
  refine (pick_any w.heap.size 0 3 _ hR1 (by omega) (by omega) (by omega)).mono ?_
  rintro e w2 ⟨x, rfl, hx, hb2, hR2⟩
  have hz2 := hb2.size
  by_cases x0 : x = 0
  · subst x0
    go_wp2_with fail
    refine (random_any w.heap.size (0 + 1) _ hR2 (by omega)).mono ?_
    rintro e w3 ⟨C, v, p', rfl, hC, hO, hb3, hp, hR3⟩
    go_wp2_with fail
    go_ret
    exact ⟨C, _, rfl, by omega, OwnsO.mono hO (by omega), hb1.trans ((hb2.trans hb3).new (Nat.le_refl _) hz1)⟩
  · have x0' : (x == 0) = false := by simp [x0]
    go_wp2_with fail
    refine (code_any w.heap.size (0 + 1) _ hR2 (by omega)).mono ?_
    rintro e w3 ⟨C, v, p', rfl, hC, hO, hb3, hp, hR3⟩
    go_wp2_with fail
    go_ret
    exact ⟨C, _, rfl, hC, OwnsO.mono hO (by omega), hb1.trans ((hb2.trans hb3).new (Nat.le_refl _) hz1)⟩
end
set_option maxHeartbeats 2000000 in
theorem lvInts_same (S : Nat) (L : List Int) (u v : Value) (w : World) (hl : L.length ≤ 1048576) (hu : Ints S w u L) (hv : Ints S w v L) :
    Calls Tryz.prog 19 #[u, v] w fun e w' => e = .returned (.bool true) ∧ Below w.heap.size w w' := by
  obtain ⟨ao, c, rfl, hu⟩ := hu
  obtain ⟨bo, d, rfl, hv⟩ := hv
  rcases hu with rfl | ⟨b, o, rfl, _, hc⟩
  · go_enter Tryz.func19, Tryz.ntmps19
    go_wp2_with fail
    refine wp_loop_rounds 1 ?_
    rw [rounds_succ]
    go_wp2_with fail
    go_ret
    exact ⟨rfl, Below.refl _ _⟩
  rcases hv with rfl | ⟨b', o', rfl, _, hd⟩
  · go_enter Tryz.func19, Tryz.ntmps19
    go_wp2_with fail
    refine wp_loop_rounds 1 ?_
    rw [rounds_succ]
    go_wp2_with fail
    go_ret
    exact ⟨rfl, Below.refl _ _⟩
  · go_enter Tryz.func19, Tryz.ntmps19
    go_wp2_with fail
    go_loopw [5] (fun i wr => ∃ k : Nat, k ≤ L.length ∧ i = .int .i64 k ∧ ∃ q, wr = w.drewN q) (fun i _ => L.length - (intOf i).toNat)
    case atStart => exact ⟨0, Nat.zero_le _, rfl, 0, rfl⟩
    case round =>
      obtain ⟨k, hk, rfl, q, rfl⟩ := hrel
      by_cases hlt : k < L.length
      · have c0 : (w.drewN q).cell? ⟨b, o + k, none⟩ = some (.int .i64 L[k]) := hc k hlt
        have d0 : (w.drewN q).cell? ⟨b', o' + k, none⟩ = some (.int .i64 L[k]) := hd k hlt
        obtain ⟨W, hW⟩ : ∃ W, W = w.drewN q := ⟨_, rfl⟩
        rw [← hW] at c0 d0 ⊢
        have HW : Hid (W = w.drewN q) := hW
        clear hW hc hd
        generalize L[k] = x at *
        go_wp2_with fail
        go_quiet (fail)
        go_wp2_with fail
        go_roundw
        case rel => exact ⟨k + 1, by omega, by go_num, q + nq, by rw [HW.out]; simp [World.drewN]; omega⟩
        case measure => simp [intOf]; omega
      · have e : k = L.length := by omega
        subst e
        go_wp2_with fail
        go_ret
        exact ⟨rfl, below_drewN (Below.refl _ _) _⟩
end Go.Proofs.YtekmjgkjpdhedaaGreatDoor
