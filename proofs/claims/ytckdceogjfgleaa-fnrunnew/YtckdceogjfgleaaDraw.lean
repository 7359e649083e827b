/-
  The reader of drawn codes (spec.l6Open, pick), over this translation: whatever the code, a pick of n is a number from 0 to less than n, and turns nothing but the reader's own place.
-/
import Derived.Test.YtckdceogjfgleaaBut
import Derived.Deep.DeepCutAuto
import Derived.Deep.RegionHeld3
import Derived.Deep.DrawnRows
namespace Go.Proofs.Ytckdceogjfgleaa
open Go.ChangeShapes Go.WideShapes Go.ChangeAt Go.RowKit Go.Joins
attribute [local go_sem ↓] Go.wp_at_zero Go.wp_at_succ
theorem xor_i64_nat (a b : Nat) (ha : a < 4611686018427387904) (hb : b < 4611686018427387904) : bits .xor .i64 (a : Int) (b : Int) = ((a ^^^ b : Nat) : Int) := by
  have hx : a ^^^ b < 2 ^ 62 := Nat.xor_lt_two_pow (by omega) (by omega)
  have h1 : (BitVec.ofInt 64 (a : Int)).toNat = a := by
    rw [BitVec.ofInt_natCast, BitVec.toNat_ofNat]; exact Nat.mod_eq_of_lt (by omega)
  have h2 : (BitVec.ofInt 64 (b : Int)).toNat = b := by
    rw [BitVec.ofInt_natCast, BitVec.toNat_ofNat]; exact Nat.mod_eq_of_lt (by omega)
  show IntKind.i64.wrap ((BitVec.ofInt 64 (a : Int) ^^^ BitVec.ofInt 64 (b : Int)).toNat : Int) = _
  rw [BitVec.toNat_xor, h1, h2]
  simp [IntKind.wrap, IntKind.bits, IntKind.signed]
  omega
theorem xor_i64_nonneg (a b : Int) (ha : 0 ≤ a) (ha' : a < 4611686018427387904) (hb : 0 ≤ b) (hb' : b < 4611686018427387904) : 0 ≤ bits .xor .i64 a b := by
  obtain ⟨x, rfl⟩ := Int.eq_ofNat_of_zero_le ha
  obtain ⟨y, rfl⟩ := Int.eq_ofNat_of_zero_le hb
  rw [xor_i64_nat x y (by omega) (by omega)]
  omega

/-! ### a reader in memory -/
/-- bytes that can be read: none, or a row of them below block R -/
def Bys (R : Nat) (a : Option Addr) (len : Nat) (w : World) : Prop :=
  len = 0 ∨ ∃ b off, a = some ⟨b, off, none⟩ ∧ b < R ∧ ∃ z : Nat → Int, (∀ i, 0 ≤ z i ∧ z i ≤ 255) ∧ ∀ i, i < len → w.cell? ⟨b, off + i, none⟩ = some (.int .u8 (z i))
structure Rd (R : Nat) (p : Int) (w : World) : Prop where
  lt : R < w.heap.size
  p0 : 0 ≤ p
  row : ∃ a len cap, w.cell? ⟨R, 0, none⟩ = some (.slice a len cap) ∧ len ≤ 2000 ∧ Bys R a len w
  place : w.cell? ⟨R, 1, none⟩ = some (.int .i64 p)
  free : w.frozen? ⟨R, 1, none⟩ = false
theorem Bys.but {R C : Nat} {a : Option Addr} {len : Nat} {w w' : World} (h : Bys R a len w) (hb : But C w w') (hR : R < w.heap.size) (hC : R ≤ C) : Bys R a len w' := by
  rcases h with h | ⟨b, off, ha, hlt, z, hz, hc⟩
  · exact .inl h
  · exact .inr ⟨b, off, ha, hlt, z, hz, fun i hi => (hb.cell (p := ⟨b, off + i, none⟩) (by dsimp only; omega) (by dsimp only; omega)).trans (hc i hi)⟩
/-- a reader stays where another block, made later, is written -/
theorem Rd.but {R C : Nat} {p : Int} {w w' : World} (h : Rd R p w) (hb : But C w w') (hC : R < C) : Rd R p w' := by
  obtain ⟨a, len, cap, h0, h1, h2⟩ := h.row
  have hl := h.lt
  exact ⟨Nat.lt_of_lt_of_le h.lt hb.size, h.p0, ⟨a, len, cap, (hb.cell (p := ⟨R, 0, none⟩) h.lt (by dsimp only; omega)).trans h0, h1, h2.but hb h.lt (by omega)⟩,
    (hb.cell (p := ⟨R, 1, none⟩) h.lt (by dsimp only; omega)).trans h.place, (hb.frozen (p := ⟨R, 1, none⟩) h.lt (by dsimp only; omega)).trans h.free⟩
theorem Rd.below {R : Nat} {p : Int} {w w' : World} (h : Rd R p w) (hb : Below w.heap.size w w') : Rd R p w' := h.but (But.of_below (R := R + 1) hb) (by omega)
/-- behind a pick -/
theorem Rd.next {R : Nat} {p : Int} {w : World} (h : Rd R p w) (q : Nat) : Rd R (p + 1) ((w.setCell ⟨R, 1, none⟩ (.int .i64 (p + 1))).drewN q) := by
  obtain ⟨a, len, cap, h0, h1, h2⟩ := h.row
  have hl := h.lt
  have hb : But R w ((w.setCell ⟨R, 1, none⟩ (.int .i64 (p + 1))).drewN q) := ((But.refl R w).setCell rfl _).drewN q
  have hp0 := h.p0
  have hpl := h.place
  have hfr := h.free
  exact ⟨Nat.lt_of_lt_of_le h.lt hb.size, by omega, ⟨a, len, cap, by simp [go_sem, h0], h1, h2.but hb h.lt (Nat.le_refl _)⟩,
    by simp [go_sem, hpl], by simp [go_sem, hfr]⟩

set_option maxHeartbeats 1000000 in
theorem pick_far (R b off len cap : Nat) (p n : Int) (z : Nat → Int) (w : World) (h0 : w.cell? ⟨R, 0, none⟩ = some (.slice (some ⟨b, off, none⟩) len cap)) (h1 : w.cell? ⟨R, 1, none⟩ = some (.int .i64 p)) (hf : w.frozen? ⟨R, 1, none⟩ = false)
    (hbR : b ≠ R) (hp0 : 0 ≤ p) (hp1 : p ≤ 1000000) (hl0 : 0 < len) (hl1 : len ≤ 2000) (hz : ∀ i, i < len → w.cell? ⟨b, off + i, none⟩ = some (.int .u8 (z i))) (hz0 : ∀ i, 0 ≤ z i) (hz1 : ∀ i, z i ≤ 255) (hn1 : 1 ≤ n) (hn2 : n ≤ 1000) (hge : (len : Int) ≤ p) :
    Calls Try.prog 28 #[.pointer (some ⟨R, 0, none⟩), .int .i64 n] w fun e w' => ∃ r q, e = .returned (.int .i64 r) ∧ 0 ≤ r ∧ r < n ∧ w' = (w.setCell ⟨R, 1, none⟩ (.int .i64 (p + 1))).drewN q := by
  have hlz : ((len : Int) == 0) = false := by simp; omega
  have hn' : ¬ n < 1 := by omega
  have a1 : 0 ≤ p % (len : Int) := Int.emod_nonneg _ (by omega)
  have a2 : p % (len : Int) < (len : Int) := Int.emod_lt_of_pos _ (by omega)
  have b1 : 0 ≤ (p * 7 + 3) % (len : Int) := Int.emod_nonneg _ (by omega)
  have b2 : (p * 7 + 3) % (len : Int) < (len : Int) := Int.emod_lt_of_pos _ (by omega)
  have c1 : 0 ≤ p / (len : Int) := Int.ediv_nonneg hp0 (by omega)
  have c2 : p / (len : Int) ≤ 1000000 := Int.le_trans (Int.ediv_le_self _ hp0) hp1
  obtain ⟨x, hx⟩ : ∃ x, z (p % (len : Int)).toNat = x := ⟨_, rfl⟩
  obtain ⟨y, hy⟩ : ∃ y, z ((p * 7 + 3) % (len : Int)).toNat = y := ⟨_, rfl⟩
  have x0 : 0 ≤ x := hx ▸ hz0 _
  have x1 : x ≤ 255 := hx ▸ hz1 _
  have y0 : 0 ≤ y := hy ▸ hz0 _
  have y1 : y ≤ 255 := hy ▸ hz1 _
  have k1 : w.cell? ⟨b, off + (p % (len : Int)).toNat, none⟩ = some (.int .u8 x) := by rw [hz _ (by omega), hx]
  have k2 : w.cell? ⟨b, off + ((p * 7 + 3) % (len : Int)).toNat, none⟩ = some (.int .u8 y) := by rw [hz _ (by omega), hy]
  clear hx hy hz hz0 hz1
  go_enter Try.func28, Try.ntmps28
  go_wp2_with fail
  go_quiet (fail)
  have hX0 : 0 ≤ x * 131 + y * 1117 + p * 29 + p / (len : Int) * 53 := by omega
  have hX1 : x * 131 + y * 1117 + p * 29 + p / (len : Int) * 53 ≤ 100000000 := by omega
  generalize x * 131 + y * 1117 + p * 29 + p / (len : Int) * 53 = X at *
  clear k1 k2 a1 a2 b1 b2 c1 c2
  have hB0 := xor_i64_nonneg X (X / 64) hX0 (by omega) (by omega) (by omega)
  go_wp2_with fail
  go_ret
  exact ⟨_, nq, rfl, Int.emod_nonneg _ (by omega), Int.emod_lt_of_pos _ (by omega), rfl⟩
set_option maxHeartbeats 1000000 in
theorem pick_near (R b off len cap : Nat) (p n : Int) (z : Nat → Int) (w : World) (h0 : w.cell? ⟨R, 0, none⟩ = some (.slice (some ⟨b, off, none⟩) len cap)) (h1 : w.cell? ⟨R, 1, none⟩ = some (.int .i64 p)) (hf : w.frozen? ⟨R, 1, none⟩ = false)
    (hbR : b ≠ R) (hp0 : 0 ≤ p) (hp1 : p ≤ 1000000) (hl0 : 0 < len) (hl1 : len ≤ 2000) (hz : ∀ i, i < len → w.cell? ⟨b, off + i, none⟩ = some (.int .u8 (z i))) (hz0 : ∀ i, 0 ≤ z i) (hz1 : ∀ i, z i ≤ 255) (hn1 : 1 ≤ n) (hn2 : n ≤ 1000) (hge : p < (len : Int)) :
    Calls Try.prog 28 #[.pointer (some ⟨R, 0, none⟩), .int .i64 n] w fun e w' => ∃ r, e = .returned (.int .i64 r) ∧ 0 ≤ r ∧ r < n ∧ w' = w.setCell ⟨R, 1, none⟩ (.int .i64 (p + 1)) := by
  have hlz : ((len : Int) == 0) = false := by simp; omega
  have hn' : ¬ n < 1 := by omega
  obtain ⟨x, hx⟩ : ∃ x, z p.toNat = x := ⟨_, rfl⟩
  have x0 : 0 ≤ x := hx ▸ hz0 _
  have x1 : x ≤ 255 := hx ▸ hz1 _
  have k1 : w.cell? ⟨b, off + p.toNat, none⟩ = some (.int .u8 x) := by rw [hz _ (by omega), hx]
  clear hx hz hz0 hz1
  go_enter Try.func28, Try.ntmps28
  go_wp2_with fail
  go_ret
  exact ⟨_, rfl, Int.emod_nonneg _ (by omega), Int.emod_lt_of_pos _ (by omega), rfl⟩
set_option maxHeartbeats 1000000 in
theorem pick_none (R cap : Nat) (a : Option Addr) (p n : Int) (w : World) (h0 : w.cell? ⟨R, 0, none⟩ = some (.slice a 0 cap)) (h1 : w.cell? ⟨R, 1, none⟩ = some (.int .i64 p)) (hf : w.frozen? ⟨R, 1, none⟩ = false)
    (hp0 : 0 ≤ p) (hp1 : p ≤ 1000000) (hn1 : 1 ≤ n) (hn2 : n ≤ 1000) :
    Calls Try.prog 28 #[.pointer (some ⟨R, 0, none⟩), .int .i64 n] w fun e w' => ∃ r, e = .returned (.int .i64 r) ∧ 0 ≤ r ∧ r < n ∧ w' = w.setCell ⟨R, 1, none⟩ (.int .i64 (p + 1)) := by
  have hn' : ¬ n < 1 := by omega
  go_enter Try.func28, Try.ntmps28
  go_wp2_with fail
  go_ret
  exact ⟨0, rfl, by omega, by omega, rfl⟩
/-- a pick of n, whatever the code -/
theorem pick_any (R : Nat) (p n : Int) (w : World) (h : Rd R p w) (hp1 : p ≤ 1000000) (hn1 : 1 ≤ n) (hn2 : n ≤ 1000) :
    Calls Try.prog 28 #[.pointer (some ⟨R, 0, none⟩), .int .i64 n] w fun e w' => ∃ r, e = .returned (.int .i64 r) ∧ (0 ≤ r ∧ r < n) ∧ But R w w' ∧ Rd R (p + 1) w' := by
  have key : Calls Try.prog 28 #[.pointer (some ⟨R, 0, none⟩), .int .i64 n] w fun e w' => ∃ r q, e = .returned (.int .i64 r) ∧ 0 ≤ r ∧ r < n ∧ w' = (w.setCell ⟨R, 1, none⟩ (.int .i64 (p + 1))).drewN q := by
    obtain ⟨a, len, cap, h0, h1, h2⟩ := h.row
    rcases h2 with rfl | ⟨b, off, rfl, hlt, z, hz, hc⟩
    · exact (pick_none R cap a p n w h0 h.place h.free h.p0 hp1 hn1 hn2).mono fun e w' ⟨r, he, h1, h2, hw⟩ => ⟨r, 0, he, h1, h2, hw⟩
    · by_cases hl : len = 0
      · subst hl; exact (pick_none R cap _ p n w h0 h.place h.free h.p0 hp1 hn1 hn2).mono fun e w' ⟨r, he, h1, h2, hw⟩ => ⟨r, 0, he, h1, h2, hw⟩
      · by_cases hge : (len : Int) ≤ p
        · exact pick_far R b off len cap p n z w h0 h.place h.free (by omega) h.p0 hp1 (by omega) h1 hc (fun i => (hz i).1) (fun i => (hz i).2) hn1 hn2 hge
        · exact (pick_near R b off len cap p n z w h0 h.place h.free (by omega) h.p0 hp1 (by omega) h1 hc (fun i => (hz i).1) (fun i => (hz i).2) hn1 hn2 (by omega)).mono fun e w' ⟨r, he, h1, h2, hw⟩ => ⟨r, 0, he, h1, h2, hw⟩
  refine key.mono fun e w' ⟨r, q, he, hr0, hr1, hw⟩ => ⟨r, he, ⟨hr0, hr1⟩, ?_, ?_⟩
  · rw [hw]; exact ((But.refl R w).setCell rfl _).drewN q
  · rw [hw]; exact h.next q
end Go.Proofs.Ytckdceogjfgleaa
