/-
  What spec.CodeText answers over this translation: the steps' text; nothing that was there turns.
  What impl.CodeText answers over this translation: the steps' text; nothing that was there turns. The table that strconv reads is as its initialiser lays it.
  What the drawing functions of steps and of their texts answer over this translation, and laws.lvOps and lvInts of what is the same; nothing that was there turns.
-/
import Derived.Test.YtekmjgkjpdhedaaGreatDoorOpSpecText
import Derived.Test.YtekmjgkjpdhedaaGreatDoorOpCut
import Derived.Test.YtekmjgkjpdhedaaGreatDoorCodeOkS
import Derived.Test.YtekmjgkjpdhedaaGreatDoorLines
import Derived.Test.YtekmjgkjpdhedaaGreatDoorOpImplText
import Derived.Test.YtekmjgkjpdhedaaGreatDoorCodeOkI
import Derived.Test.YtekmjgkjpdhedaaGreatDoorZc04
import Derived.Test.YtekmjgkjpdhedaaGreatDoorZc03
import Derived.Deep.RegionWith
import Derived.BigRegion
namespace Go.Proofs.YtekmjgkjpdhedaaGreatDoor
open Go.ChangeShapes Go.WideShapes Go.ChangeAt Go.RowKit Go.Joins
theorem cat_line (a x : List UInt8) : ((⟨a.toArray⟩ : ByteArray) ++ ⟨x.toArray⟩) ++ (⟨#[10]⟩ : ByteArray) = ⟨(a ++ (x ++ [10])).toArray⟩ := by
  rw [show (⟨#[10]⟩ : ByteArray) = ⟨[(10 : UInt8)].toArray⟩ from rfl, cat, cat, List.append_assoc]
theorem cat_line2 (a x : List UInt8) : (⟨a.toArray⟩ : ByteArray) ++ (⟨x.toArray⟩ ++ (⟨#[10]⟩ : ByteArray)) = ⟨(a ++ (x ++ [10])).toArray⟩ := by
  rw [show (⟨#[10]⟩ : ByteArray) = ⟨[(10 : UInt8)].toArray⟩ from rfl, cat, cat]
set_option maxHeartbeats 4000000 in
theorem specCodeText_any (C : List OpV) (ao : Option Addr) (cap : Nat) (w : World) (hl : C.length ≤ 1048576) (h : CodeAt w ao C) :
    Calls Tryz.prog 9 #[.slice ao C.length cap] w fun e w' => e = .returned (.string ⟨(codeTxt C).toArray⟩) ∧ Below w.heap.size w w' := by
  go_enter Tryz.func9, Tryz.ntmps9
  go_wp2_with fail
  refine (specCodeOk_any C ao cap _ hl h).mono ?_
  rintro e w1 ⟨rfl, hb1⟩
  have hz1 := hb1.size
  cases hC : codeB C with
  | false =>
    go_wp2_with fail
    go_ret
    exact ⟨by rw [codeTxt, hC]; rfl, hb1⟩
  | true =>
  have hT : Hid (codeTxt C = linesOf C) := by show codeTxt C = linesOf C; rw [codeTxt, if_pos hC]
  have hl16 := (codeB_well hC).2.1
  have hcode := h.below hb1
  go_wp2_with fail
  go_loopw [3, 4] (fun s i wr => ∃ k : Nat, k ≤ C.length ∧ i = .int .i64 k ∧ s = .string ⟨(linesOf (C.take k)).toArray⟩ ∧ Below w1.heap.size w1 wr) (fun _ i _ => C.length - (intOf i).toNat)
  case atStart => exact ⟨0, Nat.zero_le _, rfl, rfl, Below.refl _ _⟩
  case round =>
    obtain ⟨k, hk, rfl, rfl, hB⟩ := hrel
    have hzr := hB.size
    by_cases hlt : k < C.length
    · rcases hcode.below hB with rfl | ⟨b, o, rfl, hbl, hs⟩
      · exact absurd hlt (by simp)
      have st := hs k hlt
      have hln := lines_len C hC k hk
      have hop := opTxt_len ((codeB_well hC).2.2 k hlt)
      have hst : Hid (linesOf (C.take (k + 1)) = linesOf (C.take k) ++ (C[k].txt ++ [10])) := lines_take C k hlt
      have hcall := specOpText_any C[k].k C[k].r C[k].s C[k].t C[k].a C[k].b
      have hX : Hid (C[k].txt = opTxt C[k].k C[k].r C[k].s C[k].t C[k].a C[k].b) := rfl
      generalize linesOf (C.take k) = T at *
      generalize C[k] = op at *
      obtain ⟨c0, c1, c2, c3, c4, c5⟩ := st
      clear hs
      go_wp2_with fail
      refine (hcall _).mono ?_
      rintro e w2 ⟨rfl, hb2⟩
      have hB2 : Below w1.heap.size w1 w2 := hB.trans (hb2.mono hzr)
      rw [← hX.out] at *
      have hop' : op.txt.length ≤ 22 := by rw [hX.out]; exact hop
      generalize op.txt = X at *
      clear hcall hop hX
      go_wp2_with fail
      go_roundw
      case rel => exact ⟨k + 1, by omega, by go_num, by rw [hst.out, ← cat_line], hB2⟩
      case measure => simp [intOf]; omega
    · have e : k = C.length := by omega
      subst e
      rw [List.take_length]
      go_wp2_with fail
      go_ret
      exact ⟨by rw [hT.out]; rfl, hb1.trans (hB.mono (by omega))⟩
end Go.Proofs.YtekmjgkjpdhedaaGreatDoor
namespace Go.Proofs.YtekmjgkjpdhedaaGreatDoor
open Go.ChangeShapes Go.WideShapes Go.ChangeAt Go.RowKit Go.Joins
set_option maxHeartbeats 4000000 in
theorem implCodeText_any (C : List OpV) (ao : Option Addr) (cap : Nat) (w : World) (hl : C.length ≤ 1048576) (h : CodeAt w ao C) (hTab : Tab w) :
    Calls Tryz.prog 8 #[.slice ao C.length cap] w fun e w' => e = .returned (.string ⟨(codeTxt C).toArray⟩) ∧ Below w.heap.size w w' := by
  go_enter Tryz.func8, Tryz.ntmps8
  go_wp2_with fail
  refine (implCodeOk_any C ao cap _ hl h).mono ?_
  rintro e w1 ⟨rfl, hb1⟩
  have hz1 := hb1.size
  cases hC : codeB C with
  | false =>
    go_wp2_with fail
    go_ret
    exact ⟨by rw [codeTxt, hC]; rfl, hb1⟩
  | true =>
  have hT : Hid (codeTxt C = linesOf C) := by show codeTxt C = linesOf C; rw [codeTxt, if_pos hC]
  have hl16 := (codeB_well hC).2.1
  have hcode := h.below hb1
  go_wp2_with fail
  go_loopw [3, 11] (fun s i wr => ∃ k : Nat, k ≤ C.length ∧ i = .int .i64 k ∧ s = .string ⟨(linesOf (C.take k)).toArray⟩ ∧ Below w1.heap.size w1 wr) (fun _ i _ => C.length - (intOf i).toNat)
  case atStart => exact ⟨0, Nat.zero_le _, rfl, rfl, Below.refl _ _⟩
  case round =>
    obtain ⟨k, hk, rfl, rfl, hB⟩ := hrel
    have hzr := hB.size
    by_cases hlt : k < C.length
    · rcases hcode.below hB with rfl | ⟨b, o, rfl, hbl, hs⟩
      · exact absurd hlt (by simp)
      have st := hs k hlt
      have hln := lines_len C hC k hk
      have hop := opTxt_len ((codeB_well hC).2.2 k hlt)
      have hst : Hid (linesOf (C.take (k + 1)) = linesOf (C.take k) ++ (C[k].txt ++ [10])) := lines_take C k hlt
      have hcall := implOpText_any C[k].k C[k].r C[k].s C[k].t C[k].a C[k].b
      have hX : Hid (C[k].txt = opTxt C[k].k C[k].r C[k].s C[k].t C[k].a C[k].b) := rfl
      generalize linesOf (C.take k) = T at *
      generalize C[k] = op at *
      obtain ⟨c0, c1, c2, c3, c4, c5⟩ := st
      clear hs
      go_wp2_with fail
      refine (hcall _ (hTab.below (hb1.trans ((hB.mono (by omega)).alloc (by omega) _)))).mono ?_
      rintro e w2 ⟨rfl, hb2⟩
      have hB2 : Below w1.heap.size w1 w2 := (hB.alloc hzr _).trans (hb2.mono (by simp; omega))
      rw [← hX.out] at *
      have hop' : op.txt.length ≤ 22 := by rw [hX.out]; exact hop
      generalize op.txt = X at *
      clear hcall hop hX
      go_wp2_with fail
      go_roundw
      case rel => exact ⟨k + 1, by omega, by go_num, by rw [hst.out, ← cat_line2], hB2⟩
      case measure => simp [intOf]; omega
    · have e : k = C.length := by omega
      subst e
      rw [List.take_length]
      go_wp2_with fail
      go_ret
      exact ⟨by rw [hT.out]; rfl, hb1.trans (hB.mono (by omega))⟩
end Go.Proofs.YtekmjgkjpdhedaaGreatDoor
namespace Go.Proofs.YtekmjgkjpdhedaaGreatDoor
open Go.ChangeShapes Go.WideShapes Go.ChangeAt Go.RowKit Go.Joins
section
attribute [local go_sem ↓] Go.wp_at_zero Go.wp_at_succ
theorem But.new {R : Nat} {w w' : World} (h : But R w w') {B : Nat} (hB : B ≤ R) (hz : B ≤ w.heap.size) : Below B w w' := h.below hB hz
set_option maxRecDepth 20000 in
set_option maxHeartbeats 4000000 in
theorem drawText_any (a : Option Addr) (len cap : Nat) (w : World) (h : Code0 w a len cap) :
    Calls Tryz.prog 7 #[.slice a len cap] w fun e w' => ∃ (C : List OpV) (v : Value), e = .returned v ∧ C.length ≤ 17 ∧ OwnsO w' w.heap.size v C ∧ Below w.heap.size w w' := by
  go_enter Tryz.func7, Tryz.ntmps7
  go_wp2_with fail
  refine (open_any a len cap _ h).mono ?_
  rintro e w1 ⟨rfl, hb1, hR1⟩
  have hz1 := hb1.size
  go_wp2_with fail
  refine (code_any w.heap.size 0 _ hR1 (by omega)).mono ?_
  rintro e w2 ⟨C, v, p', rfl, hC, hO, hb2, hp, hR2⟩
  go_wp2_with fail
  go_ret
  exact ⟨C, _, rfl, hC, OwnsO.mono hO hz1, hb1.trans (hb2.new (Nat.le_refl _) hz1)⟩
set_option maxRecDepth 20000 in
set_option maxHeartbeats 4000000 in
theorem drawSafe_any (a : Option Addr) (len cap : Nat) (w : World) (h : Code0 w a len cap) :
    Calls Tryz.prog 15 #[.slice a len cap] w fun e w' => ∃ (C : List OpV) (v : Value), e = .returned v ∧ C.length ≤ 17 ∧ OwnsO w' w.heap.size v C ∧ Below w.heap.size w w' := by
  go_enter Tryz.func15, Tryz.ntmps15
  go_wp2_with fail
  refine (open_any a len cap _ h).mono ?_
  rintro e w1 ⟨rfl, hb1, hR1⟩
  have hz1 := hb1.size
  go_wp2_with fail
  refine (pick_any w.heap.size 0 3 _ hR1 (by omega) (by omega) (by omega)).mono ?_
  rintro e w2 ⟨x, rfl, hx, hb2, hR2⟩
  have hz2 := hb2.size
  by_cases x0 : x = 0
  · subst x0
    go_wp2_with fail
    refine (random_any w.heap.size (0 + 1) _ hR2 (by omega)).mono ?_
    rintro e w3 ⟨C, v, p', rfl, hC, hO, hb3, hp, hR3⟩
    go_wp2_with fail
    go_ret
    exact ⟨C, _, rfl, by omega, OwnsO.mono hO (by omega), hb1.trans ((hb2.trans hb3).new (Nat.le_refl _) hz1)⟩
  · have x0' : (x == 0) = false := by simp [x0]
    go_wp2_with fail
    refine (code_any w.heap.size (0 + 1) _ hR2 (by omega)).mono ?_
    rintro e w3 ⟨C, v, p', rfl, hC, hO, hb3, hp, hR3⟩
    go_wp2_with fail
    go_ret
    exact ⟨C, _, rfl, hC, OwnsO.mono hO (by omega), hb1.trans ((hb2.trans hb3).new (Nat.le_refl _) hz1)⟩
namespace DrawCodeRead
theorem But.drewL {R : Nat} {a b : World} (h : But R a.drew b) : But R a b := ⟨h.os, h.tape, h.output, h.size, h.block⟩
/-- the row of five texts that DrawCodeRead lays -/
abbrev five : Obj := .cells #[.string ⟨#[48]⟩, .string ⟨#[32]⟩, .string ⟨#[49]⟩, .string ⟨#[10]⟩, .string ⟨#[103, 111, 32, 48, 10]⟩] 9
def fiveL : List (List UInt8) := [[48], [32], [49], [10], [103, 111, 32, 48, 10]]
theorem of_five (R : Nat) (p : Int) (w : World) (h : Rd R p w) (hp : p ≤ 900000) :
    Calls Tryz.prog 31 #[.pointer (some ⟨R, 0, none⟩), .slice (some ⟨w.heap.size, 0, none⟩) 5 5] (w.alloc five).drew fun e w' => ∃ c : List UInt8, c.length ≤ 5 ∧ e = .returned (.string ⟨c.toArray⟩) ∧ But R w w' := by
  have hl := h.lt
  have h1 : Rd R p (w.alloc five).drew := h.but (((But.refl (R + 1) w).alloc five).drew) (by omega)
  refine (of_any R w.heap.size 5 p fiveL _ h1 hp (by omega) (by omega) (by simp [World.drew]) (by omega) ?_).mono ?_
  · intro i hi
    have : i = 0 ∨ i = 1 ∨ i = 2 ∨ i = 3 ∨ i = 4 := by omega
    rcases this with rfl | rfl | rfl | rfl | rfl <;> simp [go_sem, fiveL]
  · rintro e w' ⟨i, hi, rfl, hb, _⟩
    refine ⟨fiveL.getD i [], ?_, rfl, ((But.refl R w).alloc five).trans (But.drewL hb)⟩
    have : i = 0 ∨ i = 1 ∨ i = 2 ∨ i = 3 ∨ i = 4 := by omega
    rcases this with rfl | rfl | rfl | rfl | rfl <;> decide
theorem mk_size (t : List UInt8) : (ByteArray.mk t.toArray).size = t.length := by simp [ByteArray.size]
theorem str_of (x : ByteArray) {v : Value} (hv : v = .string x) (h : x.size ≤ 400) {w w' : World} (hB : Below w.heap.size w w') :
    ∃ t : List UInt8, Ending.returned v = .returned (.string ⟨t.toArray⟩) ∧ t.length ≤ 400 ∧ Below w.heap.size w w' :=
  ⟨x.data.toList, by rw [hv], by simpa using h, hB⟩
end DrawCodeRead
open DrawCodeRead in
set_option maxRecDepth 20000 in
set_option maxHeartbeats 4000000 in
theorem drawCodeRead_any (a : Option Addr) (len cap : Nat) (w : World) (h : Code0 w a len cap) :
    Calls Tryz.prog 12 #[.slice a len cap] w fun e w' => ∃ t : List UInt8, e = .returned (.string ⟨t.toArray⟩) ∧ t.length ≤ 400 ∧ Below w.heap.size w w' := by
  go_enter Tryz.func12, Tryz.ntmps12
  go_wp2_with fail
  refine (open_any a len cap _ h).mono ?_
  rintro e w1 ⟨rfl, hb1, hR1⟩
  have hz1 := hb1.size
  have hl1 := hR1.lt
  go_wp2_with fail
  refine (code_any w.heap.size 0 _ hR1 (by omega)).mono ?_
  rintro e w2 ⟨C, v, p2, rfl, hC, hO, hb2, hp2, hR2⟩
  have hz2 := hb2.size
  have hB2 : Below w.heap.size w w2 := hb1.trans (hb2.below (by omega) (by omega))
  obtain ⟨ao, cp, rfl, hAt, _⟩ := hO.code
  clear hb1 hb2 hO
  have hCl : Hid (C.length ≤ 1048576) := by show _ ≤ _; omega
  have htl : Hid ((codeTxt C).length ≤ 368) := by
    show _ ≤ _
    unfold codeTxt
    split
    · rename_i hc; exact lines_code_len hc
    · simp
  clear hC
  go_wp2_with fail
  refine (specCodeText_any C ao cp _ hCl.out hAt).mono ?_
  rintro e w3 ⟨rfl, hb3⟩
  have hz3 := hb3.size
  have hR3 := hR2.below hb3
  have hB3 : Below w.heap.size w w3 := hB2.trans (hb3.mono (by omega))
  clear hb3 hB2 hR2 hAt
  have tl : (codeTxt C).length ≤ 368 := htl.out
  clear htl
  generalize codeTxt C = t at *
  have i0 : (t.length : Int) + 1 ≤ 369 := by omega
  go_wp2_with fail
  refine (pick_any w.heap.size p2 ((t.length : Int) + 1) _ hR3 (by omega) (by omega) (by omega)).mono ?_
  rintro e w4 ⟨at', rfl, hat, hb4, hR4⟩
  obtain ⟨ha0, ha1⟩ := hat
  have hz4 := hb4.size
  have hB4 : Below w.heap.size w w4 := hB3.trans (hb4.below (by omega) (by omega))
  clear hb4 hB3 hR3
  have ha2 : at' ≤ (t.length : Int) := by omega
  go_wp2_with fail
  refine (pick_any w.heap.size (p2 + 1) 8 _ hR4 (by omega) (by omega) (by omega)).mono ?_
  rintro e w5 ⟨r, rfl, hr, hb5, hR5⟩
  have hz5 := hb5.size
  have hB5 : Below w.heap.size w w5 := hB4.trans (hb5.below (by omega) (by omega))
  clear hb5 hB4 hR4
  by_cases h0 : r = 0
  · subst h0
    go_wp2_with fail
    go_ret
    refine str_of _ rfl ?_ hB5
    simp [ByteArray.size_extract]; omega
  · have h0' : (r == 0) = false := by simp [h0]
    by_cases h1 : r = 1
    · subst h1
      go_wp2_with fail
      have C := of_five w.heap.size (p2 + 1 + 1) w5 hR5 (by omega)
      have j1 : ((ByteArray.mk t.toArray).extract 0 at'.toNat).size = at'.toNat := by rw [ByteArray.size_extract, mk_size]; omega
      have j2 : ((ByteArray.mk t.toArray).extract at'.toNat t.length).size = t.length - at'.toNat := by rw [ByteArray.size_extract, mk_size]; omega
      go_region_with (go_at_call 31; refine C.mono ?_; rintro e w6 ⟨c, hcl, rfl, hb6⟩)
      all_goals (
        go_wp2_with fail
        go_ret
        refine str_of _ rfl ?_ (hB5.trans (hb6.below (by omega) (by omega)))
        simp only [ByteArray.size_append, j1, j2]
        have e1 : (ByteArray.mk c.toArray).size = c.length := mk_size c
        omega)
    · have h1' : (r == 1) = false := by simp [h1]
      go_wp2_with fail
      go_ret
      exact ⟨_, rfl, by omega, hB5⟩
end
set_option maxRecDepth 20000 in
set_option maxHeartbeats 2000000 in
theorem lvOps_same (C : List OpV) (g h : Nat) (c d : Nat) (w : World) (hl : C.length ≤ 1048576) (hg : ∀ i (hi : i < C.length), StepAt w g (i * 6) C[i]) (hh : ∀ i (hi : i < C.length), StepAt w h (i * 6) C[i]) :
    Calls Tryz.prog 11 #[.slice (some ⟨g, 0, none⟩) C.length c, .slice (some ⟨h, 0, none⟩) C.length d] w fun e w' => e = .returned (.bool true) ∧ Below w.heap.size w w' := by
  go_enter Tryz.func11, Tryz.ntmps11
  go_wp2_with fail
  go_loopw [5] (fun i wr => ∃ k : Nat, k ≤ C.length ∧ i = .int .i64 k ∧ Below w.heap.size w wr) (fun i _ => C.length - (intOf i).toNat)
  case atStart => exact ⟨0, Nat.zero_le _, rfl, Below.refl _ _⟩
  case round =>
    obtain ⟨k, hk, rfl, hB⟩ := hrel
    by_cases hlt' : k < C.length
    · have s := (hg k hlt').below (w' := wr) (by exact hB)
      have t := (hh k hlt').below (w' := wr) (by exact hB)
      obtain ⟨x, hx0⟩ : ∃ x, x = C[k] := ⟨_, rfl⟩
      rw [← hx0] at s t
      clear hx0
      obtain ⟨c0, c1, c2, c3, c4, c5⟩ := s
      obtain ⟨d0, d1, d2, d3, d4, d5⟩ := t
      go_wp2_with fail
      go_quiet (fail)
      go_wp2_with fail
      go_roundw
      case rel => exact ⟨k + 1, by omega, by go_num, ⟨hB.os, hB.tape, hB.output, hB.size, hB.block⟩⟩
      case measure => simp [intOf]; omega
    · have e : k = C.length := by omega
      subst e
      go_wp2_with fail
      go_ret
      exact ⟨rfl, hB⟩
set_option maxRecDepth 20000 in
set_option maxHeartbeats 2000000 in
theorem lvOps_nil (ao bo : Option Addr) (c d : Nat) (w : World) :
    Calls Tryz.prog 11 #[.slice ao 0 c, .slice bo 0 d] w fun e w' => e = .returned (.bool true) ∧ Below w.heap.size w w' := by
  go_enter Tryz.func11, Tryz.ntmps11
  go_wp2_with fail
  refine wp_loop_rounds 1 ?_
  rw [rounds_succ]
  go_wp2_with fail
  go_ret
  exact ⟨rfl, Below.refl _ _⟩
theorem lvOps_own (C : List OpV) (hl : C.length ≤ 1048576) {w : World} {A B : Nat} {u v : Value} (hu : OwnsO w A u C) (hv : OwnsO w B v C) :
    Calls Tryz.prog 11 #[u, v] w fun e w' => e = .returned (.bool true) ∧ Below w.heap.size w w' := by
  by_cases h : 1 ≤ C.length
  · obtain ⟨g, c, rfl, _, _⟩ := hu.blk h
    obtain ⟨g', c', rfl, _, _⟩ := hv.blk h
    exact lvOps_same C g g' c c' w hl (fun i hi => (hu.stepAt i hi).1) (fun i hi => (hv.stepAt i hi).1)
  · obtain rfl : C = [] := by cases C with | nil => rfl | cons a l => exact absurd (by simp) h
    obtain ⟨ao, c, rfl, _⟩ := hu.code
    obtain ⟨bo, d, rfl, _⟩ := hv.code
    exact lvOps_nil ao bo c d w
set_option maxHeartbeats 2000000 in
theorem lvInts_same (S : Nat) (L : List Int) (u v : Value) (w : World) (hl : L.length ≤ 1048576) (hu : Ints S w u L) (hv : Ints S w v L) :
    Calls Tryz.prog 19 #[u, v] w fun e w' => e = .returned (.bool true) ∧ Below w.heap.size w w' := by
  obtain ⟨ao, c, rfl, hu⟩ := hu
  obtain ⟨bo, d, rfl, hv⟩ := hv
  rcases hu with rfl | ⟨b, o, rfl, _, hc⟩
  · go_enter Tryz.func19, Tryz.ntmps19
    go_wp2_with fail
    refine wp_loop_rounds 1 ?_
    rw [rounds_succ]
    go_wp2_with fail
    go_ret
    exact ⟨rfl, Below.refl _ _⟩
  rcases hv with rfl | ⟨b', o', rfl, _, hd⟩
  · go_enter Tryz.func19, Tryz.ntmps19
    go_wp2_with fail
    refine wp_loop_rounds 1 ?_
    rw [rounds_succ]
    go_wp2_with fail
    go_ret
    exact ⟨rfl, Below.refl _ _⟩
  · go_enter Tryz.func19, Tryz.ntmps19
    go_wp2_with fail
    go_loopw [5] (fun i wr => ∃ k : Nat, k ≤ L.length ∧ i = .int .i64 k ∧ ∃ q, wr = w.drewN q) (fun i _ => L.length - (intOf i).toNat)
    case atStart => exact ⟨0, Nat.zero_le _, rfl, 0, rfl⟩
    case round =>
      obtain ⟨k, hk, rfl, q, rfl⟩ := hrel
      by_cases hlt : k < L.length
      · have c0 : (w.drewN q).cell? ⟨b, o + k, none⟩ = some (.int .i64 L[k]) := hc k hlt
        have d0 : (w.drewN q).cell? ⟨b', o' + k, none⟩ = some (.int .i64 L[k]) := hd k hlt
        obtain ⟨W, hW⟩ : ∃ W, W = w.drewN q := ⟨_, rfl⟩
        rw [← hW] at c0 d0 ⊢
        have HW : Hid (W = w.drewN q) := hW
        clear hW hc hd
        generalize L[k] = x at *
        go_wp2_with fail
        go_quiet (fail)
        go_wp2_with fail
        go_roundw
        case rel => exact ⟨k + 1, by omega, by go_num, q + nq, by rw [HW.out]; simp [World.drewN]; omega⟩
        case measure => simp [intOf]; omega
      · have e : k = L.length := by omega
        subst e
        go_wp2_with fail
        go_ret
        exact ⟨rfl, below_drewN (Below.refl _ _) _⟩
end Go.Proofs.YtekmjgkjpdhedaaGreatDoor
