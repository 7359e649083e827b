/-
  What spec.DrawOpRead draws, over this translation: whatever the code, some text of at most 30 bytes; nothing that was there turns.
-/
import Derived.Test.YtcpkfganjndlhaaGreatDoorOpAny
import Derived.Test.YtcpkfganjndlhaaGreatDoorOpSpecText
import Derived.Deep.RegionWith
namespace Go.Proofs.YtcpkfganjndlhaaGreatDoor
open Go.ChangeShapes Go.WideShapes Go.ChangeAt Go.RowKit Go.Joins
attribute [local go_sem ↓] Go.wp_at_zero Go.wp_at_succ
namespace DrawOpRead
set_option maxRecDepth 20000 in
set_option maxHeartbeats 1000000 in
theorem of_any (R b n : Nat) (p : Int) (L : List (List UInt8)) (w : World) (h : Rd R p w) (hp : p ≤ 900000) (hn1 : 1 ≤ n) (hn2 : n ≤ 100) (hb : b < w.heap.size) (hbR : b ≠ R) (hc : ∀ i, i < n → w.cell? ⟨b, i, none⟩ = some (.string ⟨(L.getD i []).toArray⟩)) :
    Calls Tryz.prog 27 #[.pointer (some ⟨R, 0, none⟩), .slice (some ⟨b, 0, none⟩) n n] w fun e w' => ∃ i : Nat, i < n ∧ e = .returned (.string ⟨(L.getD i []).toArray⟩) ∧ But R w w' ∧ Rd R (p + 1) w' := by
  replace hc : Hid (∀ i, i < n → w.cell? ⟨b, i, none⟩ = some (.string ⟨(L.getD i []).toArray⟩)) := hc
  go_enter Tryz.func27, Tryz.ntmps27
  go_wp2_with fail
  refine (pick_any R p (n : Int) _ h (by omega) (by omega) (by omega)).mono ?_
  rintro e w1 ⟨x, rfl, hx, hb1, hR1⟩
  obtain ⟨i, rfl⟩ : ∃ i : Nat, x = (i : Int) := ⟨x.toNat, by omega⟩
  have hi : i < n := by omega
  have hi' : (i : Int) < (n : Int) := by omega
  have c0 : w1.cell? ⟨b, i, none⟩ = some (.string ⟨(L.getD i []).toArray⟩) := (hb1.cell (p := ⟨b, i, none⟩) hb hbR).trans (hc.out i hi)
  go_wp2_with fail
  go_ret
  exact ⟨i, hi, rfl, hb1, hR1⟩
theorem But.drewL {R : Nat} {a b : World} (h : But R a.drew b) : But R a b := ⟨h.os, h.tape, h.output, h.size, h.block⟩
/-- the row of five texts that DrawOpRead lays -/
abbrev five : Obj := .cells #[.string ⟨#[48]⟩, .string ⟨#[32]⟩, .string ⟨#[49]⟩, .string ⟨#[32, 110, 49]⟩, .string ⟨#[120]⟩] 9
def fiveL : List (List UInt8) := [[48], [32], [49], [32, 110, 49], [120]]
theorem of_five (R : Nat) (p : Int) (w : World) (h : Rd R p w) (hp : p ≤ 900000) :
    Calls Tryz.prog 27 #[.pointer (some ⟨R, 0, none⟩), .slice (some ⟨w.heap.size, 0, none⟩) 5 5] (w.alloc five).drew fun e w' => ∃ c : List UInt8, c.length ≤ 3 ∧ e = .returned (.string ⟨c.toArray⟩) ∧ But R w w' := by
  have hl := h.lt
  have h1 : Rd R p (w.alloc five).drew := h.but (((But.refl (R + 1) w).alloc five).drew) (by omega)
  refine (of_any R w.heap.size 5 p fiveL _ h1 hp (by omega) (by omega) (by simp [World.drew]) (by omega) ?_).mono ?_
  · intro i hi
    have : i = 0 ∨ i = 1 ∨ i = 2 ∨ i = 3 ∨ i = 4 := by omega
    rcases this with rfl | rfl | rfl | rfl | rfl <;> simp [go_sem, fiveL]
  · rintro e w' ⟨i, hi, rfl, hb, _⟩
    refine ⟨fiveL.getD i [], ?_, rfl, ((But.refl R w).alloc five).trans (But.drewL hb)⟩
    have : i = 0 ∨ i = 1 ∨ i = 2 ∨ i = 3 ∨ i = 4 := by omega
    rcases this with rfl | rfl | rfl | rfl | rfl <;> decide
theorem mk_size (t : List UInt8) : (ByteArray.mk t.toArray).size = t.length := by simp [ByteArray.size]
theorem str_of (x : ByteArray) {v : Value} (hv : v = .string x) (h : x.size ≤ 30) {w w' : World} (hB : Below w.heap.size w w') :
    ∃ t : List UInt8, Ending.returned v = .returned (.string ⟨t.toArray⟩) ∧ t.length ≤ 30 ∧ Below w.heap.size w w' :=
  ⟨x.data.toList, by rw [hv], by simpa using h, hB⟩
end DrawOpRead
open DrawOpRead in
set_option maxHeartbeats 4000000 in
theorem drawOpRead_any (a : Option Addr) (len cap : Nat) (w : World) (h : Code0 w a len cap) :
    Calls Tryz.prog 12 #[.slice a len cap] w fun e w' => ∃ t : List UInt8, e = .returned (.string ⟨t.toArray⟩) ∧ t.length ≤ 30 ∧ Below w.heap.size w w' := by
  go_enter Tryz.func12, Tryz.ntmps12
  go_wp2_with fail
  refine (open_any a len cap _ h).mono ?_
  rintro e w1 ⟨rfl, hb1, hR1⟩
  have hz1 := hb1.size
  have hl1 := hR1.lt
  go_wp2_with fail
  refine (anyOp_any w.heap.size 0 _ hR1 (by omega)).mono ?_
  rintro e w2 ⟨k, r, s, t, a, b, p2, rfl, hb2, hp2, hR2⟩
  have hz2 := hb2.size
  have hB2 : Below w.heap.size w w2 := hb1.trans (hb2.below (by omega) (by omega))
  clear hb1 hb2
  go_wp2_with fail
  refine (specOpText_any _ _ _ _ _ _ _).mono ?_
  rintro e w3 ⟨rfl, hb3⟩
  have hz3 := hb3.size
  have hR3 := hR2.below hb3
  have hB3 : Below w.heap.size w w3 := hB2.trans (hb3.mono (by omega))
  clear hb3 hB2 hR2
  have tl : (opTxt k r s t a b).length ≤ 22 := by
    cases ho : opB k r s t a b with
    | true => exact opTxt_len ho
    | false => rw [opTxt_bad ho]; simp
  generalize opTxt k r s t a b = t at *
  have i0 : (t.length : Int) + 1 ≤ 23 := by omega
  go_wp2_with fail
  refine (pick_any w.heap.size p2 ((t.length : Int) + 1) _ hR3 (by omega) (by omega) (by omega)).mono ?_
  rintro e w4 ⟨at', rfl, hat, hb4, hR4⟩
  obtain ⟨ha0, ha1⟩ := hat
  have hz4 := hb4.size
  have hB4 : Below w.heap.size w w4 := hB3.trans (hb4.below (by omega) (by omega))
  clear hb4 hB3 hR3
  have ha2 : at' ≤ (t.length : Int) := by omega
  go_wp2_with fail
  refine (pick_any w.heap.size (p2 + 1) 7 _ hR4 (by omega) (by omega) (by omega)).mono ?_
  rintro e w5 ⟨r, rfl, hr, hb5, hR5⟩
  have hz5 := hb5.size
  have hB5 : Below w.heap.size w w5 := hB4.trans (hb5.below (by omega) (by omega))
  clear hb5 hB4 hR4
  by_cases h0 : r = 0
  · subst h0
    go_wp2_with fail
    go_ret
    refine str_of _ rfl ?_ hB5
    simp [ByteArray.size_extract]; omega
  · have h0' : (r == 0) = false := by simp [h0]
    by_cases h1 : r = 1
    · subst h1
      go_wp2_with fail
      have C := of_five w.heap.size (p2 + 1 + 1) w5 hR5 (by omega)
      have j1 : ((ByteArray.mk t.toArray).extract 0 at'.toNat).size = at'.toNat := by rw [ByteArray.size_extract, mk_size]; omega
      have j2 : ((ByteArray.mk t.toArray).extract at'.toNat t.length).size = t.length - at'.toNat := by rw [ByteArray.size_extract, mk_size]; omega
      go_region_with (go_at_call 27; refine C.mono ?_; rintro e w6 ⟨c, hcl, rfl, hb6⟩)
      all_goals (
        go_wp2_with fail
        go_ret
        refine str_of _ rfl ?_ (hB5.trans (hb6.below (by omega) (by omega)))
        simp only [ByteArray.size_append, j1, j2]
        have e1 : (ByteArray.mk c.toArray).size = c.length := mk_size c
        omega)
    · have h1' : (r == 1) = false := by simp [h1]
      go_wp2_with fail
      go_ret
      exact ⟨_, rfl, by omega, hB5⟩
end Go.Proofs.YtcpkfganjndlhaaGreatDoor
