/-
  What spec.DrawValRead draws, over this translation: whatever the code, some text of at most five bytes; nothing that was there turns.
-/
import Derived.Test.YtfgpmbeianbimaaDoorVal
import Derived.Test.YtfgpmbeianbimaaDoorSpecText
import Derived.Test.YtfgpmbeianbimaaDoorCutText
import Derived.Deep.RegionWith
namespace Go.Proofs.YtfgpmbeianbimaaDoor
open Go.ChangeShapes Go.WideShapes Go.ChangeAt Go.RowKit Go.Joins
attribute [local go_sem ↓] Go.wp_at_zero Go.wp_at_succ
set_option maxHeartbeats 2000000 in
theorem of_any (R b : Nat) (p : Int) (w : World) (h : Rd R p w) (hp : p ≤ 1000000) (hbR : b ≠ R) (hb : b < w.heap.size) (z : Nat → UInt8)
    (hz : ∀ i, i < 5 → w.cell? ⟨b, i, none⟩ = some (.string ⟨[z i].toArray⟩)) :
    Calls Tryd.prog 28 #[.pointer (some ⟨R, 0, none⟩), .slice (some ⟨b, 0, none⟩) 5 5] w fun e w' => ∃ c, e = .returned (.string ⟨([c] : List UInt8).toArray⟩) ∧ But R w w' ∧ Rd R (p + 1) w' := by
  go_enter Tryd.func28, Tryd.ntmps28
  go_wp2_with fail
  refine (pick_any R p 5 _ h hp (by omega) (by omega)).mono ?_
  rintro e w1 ⟨r, rfl, hr, hb1, hR1⟩
  obtain ⟨hr0, hr1⟩ := hr
  have hc : w1.cell? ⟨b, r.toNat, none⟩ = some (.string ⟨[z r.toNat].toArray⟩) := (hb1.cell (p := ⟨b, r.toNat, none⟩) hb hbR).trans (hz _ (by omega))
  go_wp2_with fail
  go_ret
  exact ⟨_, rfl, hb1, hR1⟩
theorem But.drewL {R : Nat} {a b : World} (h : But R a.drew b) : But R a b := ⟨h.os, h.tape, h.output, h.size, h.block⟩
/-- the row of five bytes that DrawValRead lays -/
abbrev five : Obj := .cells #[.string ⟨#[48]⟩, .string ⟨#[32]⟩, .string ⟨#[49]⟩, .string ⟨#[45]⟩, .string ⟨#[110]⟩] 9
theorem of_five (R : Nat) (p : Int) (w : World) (h : Rd R p w) (hp : p ≤ 1000000) :
    Calls Tryd.prog 28 #[.pointer (some ⟨R, 0, none⟩), .slice (some ⟨w.heap.size, 0, none⟩) 5 5] (w.alloc five).drew fun e w' => ∃ c, e = .returned (.string ⟨([c] : List UInt8).toArray⟩) ∧ But R w w' := by
  have hl := h.lt
  have h1 : Rd R p (w.alloc five).drew := h.but (((But.refl (R + 1) w).alloc five).drew) (by omega)
  refine (of_any R w.heap.size p _ h1 hp (by omega) (by simp [World.drew]) (fun i => ([48, 32, 49, 45, 110] : List UInt8).getD i 0) ?_).mono ?_
  · intro i hi
    have : i = 0 ∨ i = 1 ∨ i = 2 ∨ i = 3 ∨ i = 4 := by omega
    rcases this with rfl | rfl | rfl | rfl | rfl <;> simp [go_sem]
  · rintro e w' ⟨c, rfl, hb, _⟩
    exact ⟨c, rfl, ((But.refl R w).alloc five).trans hb.drewL⟩
theorem mk_size (t : List UInt8) : (ByteArray.mk t.toArray).size = t.length := by simp [ByteArray.size]
theorem str_of (x : ByteArray) {v : Value} (hv : v = .string x) (h : x.size ≤ 5) {w w' : World} (hB : Below w.heap.size w w') :
    ∃ t : List UInt8, Ending.returned v = .returned (.string ⟨t.toArray⟩) ∧ t.length ≤ 5 ∧ Below w.heap.size w w' :=
  ⟨x.data.toList, by rw [hv], by simpa using h, hB⟩
set_option maxHeartbeats 4000000 in
theorem drawRead_any (a : Option Addr) (len cap : Nat) (w : World) (h : Code0 w a len cap) :
    Calls Tryd.prog 14 #[.slice a len cap] w fun e w' => ∃ t : List UInt8, e = .returned (.string ⟨t.toArray⟩) ∧ t.length ≤ 5 ∧ Below w.heap.size w w' := by
  go_enter Tryd.func14, Tryd.ntmps14
  go_wp2_with fail
  refine (open_any a len cap _ h).mono ?_
  rintro e w1 ⟨rfl, hb1, hR1⟩
  have hz1 := hb1.size
  have hl1 := hR1.lt
  go_wp2_with fail
  refine (val_any w.heap.size 0 _ hR1 (by omega)).mono ?_
  rintro e w2 ⟨k, n, p2, rfl, hkn, hb2, hp2, hR2⟩
  have hz2 := hb2.size
  have hB2 : Below w.heap.size w w2 := hb1.trans (hb2.below (by omega) (by omega))
  clear hb1 hb2
  go_wp2_with fail
  refine (specText_any _ _ _).mono ?_
  rintro e w3 ⟨rfl, hb3⟩
  have hz3 := hb3.size
  have hR3 := hR2.below hb3
  have hB3 : Below w.heap.size w w3 := hB2.trans (hb3.mono (by omega))
  clear hb3 hB2 hR2
  have tl : (txt k n).length ≤ 4 := by
    cases ho : okB k n with
    | true => exact txt_len ho
    | false => rw [txt_bad ho]; simp
  generalize txt k n = t at *
  have i0 : (t.length : Int) + 1 ≤ 5 := by omega
  go_wp2_with fail
  refine (pick_any w.heap.size p2 ((t.length : Int) + 1) _ hR3 (by omega) (by omega) (by omega)).mono ?_
  rintro e w4 ⟨at', rfl, hat, hb4, hR4⟩
  obtain ⟨ha0, ha1⟩ := hat
  have hz4 := hb4.size
  have hB4 : Below w.heap.size w w4 := hB3.trans (hb4.below (by omega) (by omega))
  clear hb4 hB3 hR3
  have ha2 : at' ≤ (t.length : Int) := by omega
  go_wp2_with fail
  refine (pick_any w.heap.size (p2 + 1) 7 _ hR4 (by omega) (by omega) (by omega)).mono ?_
  rintro e w5 ⟨r, rfl, hr, hb5, hR5⟩
  have hz5 := hb5.size
  have hB5 : Below w.heap.size w w5 := hB4.trans (hb5.below (by omega) (by omega))
  clear hb5 hB4 hR4
  by_cases h0 : r = 0
  · subst h0
    go_wp2_with fail
    go_ret
    refine str_of _ rfl ?_ hB5
    simp [ByteArray.size_extract]; omega
  · have h0' : (r == 0) = false := by simp [h0]
    by_cases h1 : r = 1
    · subst h1
      go_wp2_with fail
      have C := of_five w.heap.size (p2 + 1 + 1) w5 hR5 (by omega)
      have j1 : ((ByteArray.mk t.toArray).extract 0 at'.toNat).size = at'.toNat := by rw [ByteArray.size_extract, mk_size]; omega
      have j2 : ((ByteArray.mk t.toArray).extract at'.toNat t.length).size = t.length - at'.toNat := by rw [ByteArray.size_extract, mk_size]; omega
      go_region_with (go_at_call 28; refine C.mono ?_; rintro e w6 ⟨c, rfl, hb6⟩)
      all_goals (
        go_wp2_with fail
        go_ret
        refine str_of _ rfl ?_ (hB5.trans (hb6.below (by omega) (by omega)))
        simp only [ByteArray.size_append, j1, j2]
        have e1 : (ByteArray.mk #[c]).size = 1 := rfl
        omega)
    · have h1' : (r == 1) = false := by simp [h1]
      go_wp2_with fail
      go_ret
      exact ⟨_, rfl, by omega, hB5⟩
end Go.Proofs.YtfgpmbeianbimaaDoor
