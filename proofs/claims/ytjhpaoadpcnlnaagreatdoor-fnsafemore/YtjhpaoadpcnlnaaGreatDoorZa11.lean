/-
  The reader of drawn codes (spec.l6Open, pick), over this translation: whatever the code, a pick of n is a number from 0 to less than n, and turns nothing but the reader's own place.
  How a code that was handed to a law is opened by spec.l6Open, over this translation.
  What spec.l71Val draws, over this translation: whatever the code, some value; nothing turns but the reader's own place.
-/
import Derived.Test.YtjhpaoadpcnlnaaGreatDoorZa02
import Derived.Deep.DeepCutAuto
import Derived.Deep.RegionHeld3
import Derived.Deep.DrawnRows
import Derived.Deep.CutBlock
namespace Go.Proofs.YtjhpaoadpcnlnaaGreatDoor
open Go.ChangeShapes Go.WideShapes Go.ChangeAt Go.RowKit Go.Joins
attribute [local go_sem ↓] Go.wp_at_zero Go.wp_at_succ
theorem xor_i64_nat (a b : Nat) (ha : a < 4611686018427387904) (hb : b < 4611686018427387904) : bits .xor .i64 (a : Int) (b : Int) = ((a ^^^ b : Nat) : Int) := by
  have hx : a ^^^ b < 2 ^ 62 := Nat.xor_lt_two_pow (by omega) (by omega)
  have h1 : (BitVec.ofInt 64 (a : Int)).toNat = a := by
    rw [BitVec.ofInt_natCast, BitVec.toNat_ofNat]; exact Nat.mod_eq_of_lt (by omega)
  have h2 : (BitVec.ofInt 64 (b : Int)).toNat = b := by
    rw [BitVec.ofInt_natCast, BitVec.toNat_ofNat]; exact Nat.mod_eq_of_lt (by omega)
  show IntKind.i64.wrap ((BitVec.ofInt 64 (a : Int) ^^^ BitVec.ofInt 64 (b : Int)).toNat : Int) = _
  rw [BitVec.toNat_xor, h1, h2]
  simp [IntKind.wrap, IntKind.bits, IntKind.signed]
  omega
theorem xor_i64_nonneg (a b : Int) (ha : 0 ≤ a) (ha' : a < 4611686018427387904) (hb : 0 ≤ b) (hb' : b < 4611686018427387904) : 0 ≤ bits .xor .i64 a b := by
  obtain ⟨x, rfl⟩ := Int.eq_ofNat_of_zero_le ha
  obtain ⟨y, rfl⟩ := Int.eq_ofNat_of_zero_le hb
  rw [xor_i64_nat x y (by omega) (by omega)]
  omega

/-! ### a reader in memory -/
/-- bytes that can be read: none, or a row of them below block R -/
def Bys (R : Nat) (a : Option Addr) (len : Nat) (w : World) : Prop :=
  len = 0 ∨ ∃ b off, a = some ⟨b, off, none⟩ ∧ b < R ∧ ∃ z : Nat → Int, (∀ i, 0 ≤ z i ∧ z i ≤ 255) ∧ ∀ i, i < len → w.cell? ⟨b, off + i, none⟩ = some (.int .u8 (z i))
structure Rd (R : Nat) (p : Int) (w : World) : Prop where
  lt : R < w.heap.size
  p0 : 0 ≤ p
  row : ∃ a len cap, w.cell? ⟨R, 0, none⟩ = some (.slice a len cap) ∧ len ≤ 2000 ∧ Bys R a len w
  place : w.cell? ⟨R, 1, none⟩ = some (.int .i64 p)
  free : w.frozen? ⟨R, 1, none⟩ = false
theorem Bys.but {R C : Nat} {a : Option Addr} {len : Nat} {w w' : World} (h : Bys R a len w) (hb : But C w w') (hR : R < w.heap.size) (hC : R ≤ C) : Bys R a len w' := by
  rcases h with h | ⟨b, off, ha, hlt, z, hz, hc⟩
  · exact .inl h
  · exact .inr ⟨b, off, ha, hlt, z, hz, fun i hi => (hb.cell (p := ⟨b, off + i, none⟩) (by dsimp only; omega) (by dsimp only; omega)).trans (hc i hi)⟩
/-- a reader stays where another block, made later, is written -/
theorem Rd.but {R C : Nat} {p : Int} {w w' : World} (h : Rd R p w) (hb : But C w w') (hC : R < C) : Rd R p w' := by
  obtain ⟨a, len, cap, h0, h1, h2⟩ := h.row
  have hl := h.lt
  exact ⟨Nat.lt_of_lt_of_le h.lt hb.size, h.p0, ⟨a, len, cap, (hb.cell (p := ⟨R, 0, none⟩) h.lt (by dsimp only; omega)).trans h0, h1, h2.but hb h.lt (by omega)⟩,
    (hb.cell (p := ⟨R, 1, none⟩) h.lt (by dsimp only; omega)).trans h.place, (hb.frozen (p := ⟨R, 1, none⟩) h.lt (by dsimp only; omega)).trans h.free⟩
theorem Rd.below {R : Nat} {p : Int} {w w' : World} (h : Rd R p w) (hb : Below w.heap.size w w') : Rd R p w' := h.but (But.of_below (R := R + 1) hb) (by omega)
/-- behind a pick -/
theorem Rd.next {R : Nat} {p : Int} {w : World} (h : Rd R p w) (q : Nat) : Rd R (p + 1) ((w.setCell ⟨R, 1, none⟩ (.int .i64 (p + 1))).drewN q) := by
  obtain ⟨a, len, cap, h0, h1, h2⟩ := h.row
  have hl := h.lt
  have hb : But R w ((w.setCell ⟨R, 1, none⟩ (.int .i64 (p + 1))).drewN q) := ((But.refl R w).setCell rfl _).drewN q
  have hp0 := h.p0
  have hpl := h.place
  have hfr := h.free
  exact ⟨Nat.lt_of_lt_of_le h.lt hb.size, by omega, ⟨a, len, cap, by simp [go_sem, h0], h1, h2.but hb h.lt (Nat.le_refl _)⟩,
    by simp [go_sem, hpl], by simp [go_sem, hfr]⟩

set_option maxHeartbeats 1000000 in
theorem pick_far (R b off len cap : Nat) (p n : Int) (z : Nat → Int) (w : World) (h0 : w.cell? ⟨R, 0, none⟩ = some (.slice (some ⟨b, off, none⟩) len cap)) (h1 : w.cell? ⟨R, 1, none⟩ = some (.int .i64 p)) (hf : w.frozen? ⟨R, 1, none⟩ = false)
    (hbR : b ≠ R) (hp0 : 0 ≤ p) (hp1 : p ≤ 1000000) (hl0 : 0 < len) (hl1 : len ≤ 2000) (hz : ∀ i, i < len → w.cell? ⟨b, off + i, none⟩ = some (.int .u8 (z i))) (hz0 : ∀ i, 0 ≤ z i) (hz1 : ∀ i, z i ≤ 255) (hn1 : 1 ≤ n) (hn2 : n ≤ 1000) (hge : (len : Int) ≤ p) :
    Calls Tryz.prog 58 #[.pointer (some ⟨R, 0, none⟩), .int .i64 n] w fun e w' => ∃ r q, e = .returned (.int .i64 r) ∧ 0 ≤ r ∧ r < n ∧ w' = (w.setCell ⟨R, 1, none⟩ (.int .i64 (p + 1))).drewN q := by
  have hlz : ((len : Int) == 0) = false := by simp; omega
  have hn' : ¬ n < 1 := by omega
  have a1 : 0 ≤ p % (len : Int) := Int.emod_nonneg _ (by omega)
  have a2 : p % (len : Int) < (len : Int) := Int.emod_lt_of_pos _ (by omega)
  have b1 : 0 ≤ (p * 7 + 3) % (len : Int) := Int.emod_nonneg _ (by omega)
  have b2 : (p * 7 + 3) % (len : Int) < (len : Int) := Int.emod_lt_of_pos _ (by omega)
  have c1 : 0 ≤ p / (len : Int) := Int.ediv_nonneg hp0 (by omega)
  have c2 : p / (len : Int) ≤ 1000000 := Int.le_trans (Int.ediv_le_self _ hp0) hp1
  obtain ⟨x, hx⟩ : ∃ x, z (p % (len : Int)).toNat = x := ⟨_, rfl⟩
  obtain ⟨y, hy⟩ : ∃ y, z ((p * 7 + 3) % (len : Int)).toNat = y := ⟨_, rfl⟩
  have x0 : 0 ≤ x := hx ▸ hz0 _
  have x1 : x ≤ 255 := hx ▸ hz1 _
  have y0 : 0 ≤ y := hy ▸ hz0 _
  have y1 : y ≤ 255 := hy ▸ hz1 _
  have k1 : w.cell? ⟨b, off + (p % (len : Int)).toNat, none⟩ = some (.int .u8 x) := by rw [hz _ (by omega), hx]
  have k2 : w.cell? ⟨b, off + ((p * 7 + 3) % (len : Int)).toNat, none⟩ = some (.int .u8 y) := by rw [hz _ (by omega), hy]
  clear hx hy hz hz0 hz1
  go_enter Tryz.func58, Tryz.ntmps58
  go_wp2_with fail
  go_quiet (fail)
  have hX0 : 0 ≤ x * 131 + y * 1117 + p * 29 + p / (len : Int) * 53 := by omega
  have hX1 : x * 131 + y * 1117 + p * 29 + p / (len : Int) * 53 ≤ 100000000 := by omega
  generalize x * 131 + y * 1117 + p * 29 + p / (len : Int) * 53 = X at *
  clear k1 k2 a1 a2 b1 b2 c1 c2
  have hB0 := xor_i64_nonneg X (X / 64) hX0 (by omega) (by omega) (by omega)
  go_wp2_with fail
  go_ret
  exact ⟨_, nq, rfl, Int.emod_nonneg _ (by omega), Int.emod_lt_of_pos _ (by omega), rfl⟩
set_option maxHeartbeats 1000000 in
theorem pick_near (R b off len cap : Nat) (p n : Int) (z : Nat → Int) (w : World) (h0 : w.cell? ⟨R, 0, none⟩ = some (.slice (some ⟨b, off, none⟩) len cap)) (h1 : w.cell? ⟨R, 1, none⟩ = some (.int .i64 p)) (hf : w.frozen? ⟨R, 1, none⟩ = false)
    (hbR : b ≠ R) (hp0 : 0 ≤ p) (hp1 : p ≤ 1000000) (hl0 : 0 < len) (hl1 : len ≤ 2000) (hz : ∀ i, i < len → w.cell? ⟨b, off + i, none⟩ = some (.int .u8 (z i))) (hz0 : ∀ i, 0 ≤ z i) (hz1 : ∀ i, z i ≤ 255) (hn1 : 1 ≤ n) (hn2 : n ≤ 1000) (hge : p < (len : Int)) :
    Calls Tryz.prog 58 #[.pointer (some ⟨R, 0, none⟩), .int .i64 n] w fun e w' => ∃ r, e = .returned (.int .i64 r) ∧ 0 ≤ r ∧ r < n ∧ w' = w.setCell ⟨R, 1, none⟩ (.int .i64 (p + 1)) := by
  have hlz : ((len : Int) == 0) = false := by simp; omega
  have hn' : ¬ n < 1 := by omega
  obtain ⟨x, hx⟩ : ∃ x, z p.toNat = x := ⟨_, rfl⟩
  have x0 : 0 ≤ x := hx ▸ hz0 _
  have x1 : x ≤ 255 := hx ▸ hz1 _
  have k1 : w.cell? ⟨b, off + p.toNat, none⟩ = some (.int .u8 x) := by rw [hz _ (by omega), hx]
  clear hx hz hz0 hz1
  go_enter Tryz.func58, Tryz.ntmps58
  go_wp2_with fail
  go_ret
  exact ⟨_, rfl, Int.emod_nonneg _ (by omega), Int.emod_lt_of_pos _ (by omega), rfl⟩
set_option maxHeartbeats 1000000 in
theorem pick_none (R cap : Nat) (a : Option Addr) (p n : Int) (w : World) (h0 : w.cell? ⟨R, 0, none⟩ = some (.slice a 0 cap)) (h1 : w.cell? ⟨R, 1, none⟩ = some (.int .i64 p)) (hf : w.frozen? ⟨R, 1, none⟩ = false)
    (hp0 : 0 ≤ p) (hp1 : p ≤ 1000000) (hn1 : 1 ≤ n) (hn2 : n ≤ 1000) :
    Calls Tryz.prog 58 #[.pointer (some ⟨R, 0, none⟩), .int .i64 n] w fun e w' => ∃ r, e = .returned (.int .i64 r) ∧ 0 ≤ r ∧ r < n ∧ w' = w.setCell ⟨R, 1, none⟩ (.int .i64 (p + 1)) := by
  have hn' : ¬ n < 1 := by omega
  go_enter Tryz.func58, Tryz.ntmps58
  go_wp2_with fail
  go_ret
  exact ⟨0, rfl, by omega, by omega, rfl⟩
/-- a pick of n, whatever the code -/
theorem pick_any (R : Nat) (p n : Int) (w : World) (h : Rd R p w) (hp1 : p ≤ 1000000) (hn1 : 1 ≤ n) (hn2 : n ≤ 1000) :
    Calls Tryz.prog 58 #[.pointer (some ⟨R, 0, none⟩), .int .i64 n] w fun e w' => ∃ r, e = .returned (.int .i64 r) ∧ (0 ≤ r ∧ r < n) ∧ But R w w' ∧ Rd R (p + 1) w' := by
  have key : Calls Tryz.prog 58 #[.pointer (some ⟨R, 0, none⟩), .int .i64 n] w fun e w' => ∃ r q, e = .returned (.int .i64 r) ∧ 0 ≤ r ∧ r < n ∧ w' = (w.setCell ⟨R, 1, none⟩ (.int .i64 (p + 1))).drewN q := by
    obtain ⟨a, len, cap, h0, h1, h2⟩ := h.row
    rcases h2 with rfl | ⟨b, off, rfl, hlt, z, hz, hc⟩
    · exact (pick_none R cap a p n w h0 h.place h.free h.p0 hp1 hn1 hn2).mono fun e w' ⟨r, he, h1, h2, hw⟩ => ⟨r, 0, he, h1, h2, hw⟩
    · by_cases hl : len = 0
      · subst hl; exact (pick_none R cap _ p n w h0 h.place h.free h.p0 hp1 hn1 hn2).mono fun e w' ⟨r, he, h1, h2, hw⟩ => ⟨r, 0, he, h1, h2, hw⟩
      · by_cases hge : (len : Int) ≤ p
        · exact pick_far R b off len cap p n z w h0 h.place h.free (by omega) h.p0 hp1 (by omega) h1 hc (fun i => (hz i).1) (fun i => (hz i).2) hn1 hn2 hge
        · exact (pick_near R b off len cap p n z w h0 h.place h.free (by omega) h.p0 hp1 (by omega) h1 hc (fun i => (hz i).1) (fun i => (hz i).2) hn1 hn2 (by omega)).mono fun e w' ⟨r, he, h1, h2, hw⟩ => ⟨r, 0, he, h1, h2, hw⟩
  refine key.mono fun e w' ⟨r, q, he, hr0, hr1, hw⟩ => ⟨r, he, ⟨hr0, hr1⟩, ?_, ?_⟩
  · rw [hw]; exact ((But.refl R w).setCell rfl _).drewN q
  · rw [hw]; exact h.next q
end Go.Proofs.YtjhpaoadpcnlnaaGreatDoor
namespace Go.Proofs.YtjhpaoadpcnlnaaGreatDoor
open Go.ChangeShapes Go.WideShapes Go.ChangeAt Go.RowKit Go.Joins
/-- what the walk is told of a code: so many bytes, that can be read, and room behind them -/
def Code0 (w : World) (a : Option Addr) (len cap : Nat) : Prop := len ≤ cap ∧ cap ≤ maxLen ∧ Bys w.heap.size a len w
theorem Code0.below {w w' : World} {a : Option Addr} {len cap : Nat} (h : Code0 w a len cap) (hb : Below w.heap.size w w') : Code0 w' a len cap := by
  obtain ⟨h0, h1, h2⟩ := h
  refine ⟨h0, h1, ?_⟩
  rcases h2 with h | ⟨b, off, ha, hlt, z, hz, hc⟩
  · exact .inl h
  · exact .inr ⟨b, off, ha, Nat.lt_of_lt_of_le hlt hb.size, z, hz, fun i hi => (hb.cell (p := ⟨b, off + i, none⟩) hlt).trans (hc i hi)⟩
theorem rd_new {w : World} {a : Option Addr} {len cap : Nat} (hl : len ≤ 2000) (hB : Bys w.heap.size a len w) : Rd w.heap.size 0 (w.alloc (.cells #[.slice a len cap, .int .i64 0] 90)) := by
  refine ⟨by simp, by omega, ⟨a, len, cap, by simp [go_sem], hl, ?_⟩, by simp [go_sem], by simp [go_sem]⟩
  rcases hB with h | ⟨b, off, ha, hlt, z, hz, hc⟩
  · exact .inl h
  · exact .inr ⟨b, off, ha, hlt, z, hz, fun i hi => by rw [World.cell?_alloc_past _ _ _ hlt]; exact hc i hi⟩
set_option maxHeartbeats 400000 in
theorem open_short (a : Option Addr) (len cap : Nat) (w : World) (hl : len ≤ 2000) :
    Calls Tryz.prog 48 #[.slice a len cap] w fun e w' => e = .returned (.pointer (some ⟨w.heap.size, 0, none⟩)) ∧ w' = w.alloc (.cells #[.slice a len cap, .int .i64 0] 90) := by
  have h : ¬ (2000 : Int) < (len : Int) := by omega
  go_enter Tryz.func48, Tryz.ntmps48
  go_wp2_with fail
  go_ret
  exact ⟨rfl, rfl⟩
set_option maxHeartbeats 400000 in
theorem open_long (b off len cap : Nat) (w : World) (hl : 2000 < len) (hc : len ≤ cap) (hm : cap ≤ maxLen) :
    Calls Tryz.prog 48 #[.slice (some ⟨b, off, none⟩) len cap] w fun e w' => e = .returned (.pointer (some ⟨w.heap.size, 0, none⟩)) ∧ w' = w.alloc (.cells #[.slice (some ⟨b, off, none⟩) 2000 cap, .int .i64 0] 90) := by
  unfold maxLen at hm
  have h : (2000 : Int) < (len : Int) := by omega
  have h2 : (2000 : Int) ≤ (cap : Int) := by omega
  go_enter Tryz.func48, Tryz.ntmps48
  go_wp2_with fail
  go_ret
  exact ⟨rfl, rfl⟩
/-- a code is opened -/
theorem open_any (a : Option Addr) (len cap : Nat) (w : World) (h : Code0 w a len cap) :
    Calls Tryz.prog 48 #[.slice a len cap] w fun e w' => e = .returned (.pointer (some ⟨w.heap.size, 0, none⟩)) ∧ Below w.heap.size w w' ∧ Rd w.heap.size 0 w' := by
  obtain ⟨h0, h1, h2⟩ := h
  by_cases hl : len ≤ 2000
  · refine (open_short a len cap w hl).mono fun e w' ⟨he, hw⟩ => ⟨he, ?_, ?_⟩
    · rw [hw]; exact (Below.refl _ _).alloc (Nat.le_refl _) _
    · rw [hw]; exact rd_new hl h2
  · rcases h2 with h | ⟨b, off, rfl, hlt, z, hz, hc⟩
    · omega
    · refine (open_long b off len cap w (by omega) h0 h1).mono fun e w' ⟨he, hw⟩ => ⟨he, ?_, ?_⟩
      · rw [hw]; exact (Below.refl _ _).alloc (Nat.le_refl _) _
      · rw [hw]; exact rd_new (Nat.le_refl _) (.inr ⟨b, off, rfl, hlt, z, hz, fun i hi => hc i (by omega)⟩)
/-- out of a slice of bytes that came in -/
theorem code_of_row {W : World} {a : Option Addr} {len cap : Nat} {zs : List Int}
    (h : (a = none ∧ len = 0 ∧ cap = 0 ∧ zs = []) ∨ ∃ x, a = some x ∧ len ≤ cap ∧ cap ≤ maxLen ∧ zs.length = cap ∧ (∀ i, i < zs.length → W.cell? (x.add i) = some (.int .u8 (zs.getD i 0))) ∧ ∀ n ∈ zs, (Lit.int .u8 n).wf = true) : Code0 W a len cap := by
  rcases h with ⟨rfl, rfl, rfl, rfl⟩ | ⟨x, rfl, hl, hm, hz, hcell, hwz⟩
  · exact ⟨Nat.le_refl _, by unfold maxLen; omega, .inl rfl⟩
  · refine ⟨hl, hm, ?_⟩
    by_cases h0 : len = 0
    · exact .inl h0
    · obtain ⟨b, off, spot⟩ := x
      have hc := hcell 0 (by omega)
      have hspot : spot = none := by simpa [Addr.add] using World.cell?_spot hc
      subst hspot
      have hlt : b < W.heap.size := by simpa [Addr.add] using World.block_lt_of_cell? _ _ hc
      refine .inr ⟨b, off, rfl, hlt, fun i => zs.getD i 0, fun i => ?_, fun i hi => ?_⟩
      · by_cases hi : i < zs.length
        · have hw := hwz (zs.getD i 0) (by rw [List.getD_eq_getElem?_getD, List.getElem?_eq_getElem hi]; exact List.getElem_mem hi)
          have := bounds_u8 hw
          exact this
        · have : zs.getD i 0 = 0 := by rw [List.getD_eq_getElem?_getD, List.getElem?_eq_none (by omega)]; rfl
          show 0 ≤ zs.getD i 0 ∧ zs.getD i 0 ≤ 255; rw [this]; omega
      · have := hcell i (by omega)
        by_cases hi0 : i = 0
        · subst hi0; simpa [Addr.add] using this
        · simpa [Addr.add, hi0] using this
end Go.Proofs.YtjhpaoadpcnlnaaGreatDoor
namespace Go.Proofs.YtjhpaoadpcnlnaaGreatDoor
open Go.ChangeShapes Go.WideShapes Go.ChangeAt Go.RowKit Go.Joins
attribute [local go_sem ↓] Go.wp_at_zero Go.wp_at_succ
/-- two boxes of two numbers each, of the walk's own, and a reader below them -/
structure VI (R c2 c : Nat) (w : World) (k n m o p : Int) (wc : World) : Prop where
  k : wc.cell? ⟨c, 0, none⟩ = some (.int .i64 k)
  n : wc.cell? ⟨c, 1, none⟩ = some (.int .i64 n)
  fk : wc.frozen? ⟨c, 0, none⟩ = false
  fn : wc.frozen? ⟨c, 1, none⟩ = false
  m : wc.cell? ⟨c2, 0, none⟩ = some (.int .i64 m)
  o : wc.cell? ⟨c2, 1, none⟩ = some (.int .i64 o)
  fm : wc.frozen? ⟨c2, 0, none⟩ = false
  fo : wc.frozen? ⟨c2, 1, none⟩ = false
  r2 : R < c2
  l2 : c2 < c
  lc : c < wc.heap.size
  new : w.heap.size ≤ c2
  but : But R w wc
  rd : Rd R p wc
theorem VI.go {R c2 c : Nat} {w wc w' : World} {k n m o p p' : Int} (h : VI R c2 c w k n m o p wc) (hb : But R wc w') (hr : Rd R p' w') : VI R c2 c w k n m o p' w' := by
  have h1 := h.r2
  have h2 := h.l2
  have h3 := h.lc
  obtain ⟨hc, hf⟩ := butcell hb
  exact ⟨by rw [hc _ _ (by omega) (by omega)]; exact h.k, by rw [hc _ _ (by omega) (by omega)]; exact h.n, by rw [hf _ _ (by omega) (by omega)]; exact h.fk, by rw [hf _ _ (by omega) (by omega)]; exact h.fn,
    by rw [hc _ _ (by omega) (by omega)]; exact h.m, by rw [hc _ _ (by omega) (by omega)]; exact h.o, by rw [hf _ _ (by omega) (by omega)]; exact h.fm, by rw [hf _ _ (by omega) (by omega)]; exact h.fo,
    h1, h2, Nat.lt_of_lt_of_le h3 hb.size, h.new, h.but.trans hb, hr⟩
theorem VI.alloc {R c2 c : Nat} {w wc : World} {k n m o p : Int} (h : VI R c2 c w k n m o p wc) (b : Obj) : VI R c2 c w k n m o p (wc.alloc b) :=
  h.go ((But.refl _ _).alloc _) (h.rd.below ((Below.refl _ _).alloc (Nat.le_refl _) _))
theorem VI.setN {R c2 c : Nat} {w wc : World} {k n m o p : Int} (h : VI R c2 c w k n m o p wc) (v : Int) : VI R c2 c w k v m o p (wc.setCell ⟨c, 1, none⟩ (.int .i64 v)) := by
  have h1 := h.r2
  have h2 := h.l2
  have hk := h.k; have hn := h.n; have hfk := h.fk; have hfn := h.fn; have hm := h.m; have ho := h.o; have hfm := h.fm; have hfo := h.fo; have hnew := h.new
  exact ⟨by simp [go_sem, hk], by simp [go_sem, hn], by simp [go_sem, hfk], by simp [go_sem, hfn], by simp [go_sem, hm], by simp [go_sem, ho], by simp [go_sem, hfm], by simp [go_sem, hfo],
    h1, h2, by simpa [World.setCell] using h.lc, hnew, h.but.setNew (by dsimp only; omega) _, h.rd.but (C := c) (But.setCell (R := c) (But.refl _ _) (p := ⟨c, 1, none⟩) rfl _) (by omega)⟩
theorem VI.setK {R c2 c : Nat} {w wc : World} {k n m o p : Int} (h : VI R c2 c w k n m o p wc) (v : Int) : VI R c2 c w v n m o p (wc.setCell ⟨c, 0, none⟩ (.int .i64 v)) := by
  have h1 := h.r2
  have h2 := h.l2
  have hk := h.k; have hn := h.n; have hfk := h.fk; have hfn := h.fn; have hm := h.m; have ho := h.o; have hfm := h.fm; have hfo := h.fo; have hnew := h.new
  exact ⟨by simp [go_sem, hk], by simp [go_sem, hn], by simp [go_sem, hfk], by simp [go_sem, hfn], by simp [go_sem, hm], by simp [go_sem, ho], by simp [go_sem, hfm], by simp [go_sem, hfo],
    h1, h2, by simpa [World.setCell] using h.lc, hnew, h.but.setNew (by dsimp only; omega) _, h.rd.but (C := c) (But.setCell (R := c) (But.refl _ _) (p := ⟨c, 0, none⟩) rfl _) (by omega)⟩
theorem nine_at (w : World) (r : Int) (h0 : 0 ≤ r) (h1 : r < 9) (t : TypeId) : ∃ v : Int, (w.alloc (.cells #[.int .i64 0, .int .i64 1, .int .i64 2, .int .i64 3, .int .i64 (-1), .int .i64 7, .int .i64 50, .int .i64 99, .int .i64 (-99)] t)).cell? ⟨w.heap.size, r.toNat, none⟩ = some (.int .i64 v) ∧ -100 ≤ v ∧ v ≤ 100 := by
  have : r = 0 ∨ r = 1 ∨ r = 2 ∨ r = 3 ∨ r = 4 ∨ r = 5 ∨ r = 6 ∨ r = 7 ∨ r = 8 := by omega
  rcases this with rfl | rfl | rfl | rfl | rfl | rfl | rfl | rfl | rfl <;> simp [go_sem]
theorem three_at (w : World) (r : Int) (h0 : 0 ≤ r) (h1 : r < 3) (t : TypeId) : ∃ v : Int, (w.alloc (.cells #[.int .i64 (-100), .int .i64 100, .int .i64 10] t)).cell? ⟨w.heap.size, r.toNat, none⟩ = some (.int .i64 v) ∧ -100 ≤ v ∧ v ≤ 100 := by
  have : r = 0 ∨ r = 1 ∨ r = 2 := by omega
  rcases this with rfl | rfl | rfl <;> simp [go_sem]

set_option maxHeartbeats 2000000 in
/-- a drawn value -/
theorem val_any (R : Nat) (p : Int) (w : World) (h : Rd R p w) (hp : p ≤ 900000) :
    Calls Tryz.prog 77 #[.pointer (some ⟨R, 0, none⟩)] w fun e w' => ∃ k n p', e = .returned (.agg #[.int .i64 k, .int .i64 n]) ∧ (-100 ≤ k ∧ k ≤ 100 ∧ -100 ≤ n ∧ n ≤ 100) ∧ But R w w' ∧ (p ≤ p' ∧ p' ≤ p + 5) ∧ Rd R p' w' := by
  have hlt := h.lt
  have hp0 := h.p0
  go_enter Tryz.func77, Tryz.ntmps77
  go_wp2_with fail
  refine (pick_any R p 4 _ (h.below ((Below.refl _ _).alloc (Nat.le_refl _) _)) (by omega) (by omega) (by omega)).mono ?_
  rintro e w1 ⟨k, rfl, hk, hb1, hR1⟩
  obtain ⟨hc1, hf1⟩ := butcell hb1
  have hz1 := hb1.size
  simp at hz1
  have hV0 : VI R w.heap.size w1.heap.size w k 0 0 0 (p + 1) (w1.alloc (.cells #[.int .i64 k, .int .i64 0] 24)) :=
    ⟨by simp [go_sem], by simp [go_sem], by simp [go_sem], by simp [go_sem],
     by rw [World.cell?_alloc_past _ _ _ (by omega), hc1 _ _ (by simp) (by omega)]; simp [go_sem], by rw [World.cell?_alloc_past _ _ _ (by omega), hc1 _ _ (by simp) (by omega)]; simp [go_sem],
     by rw [((Below.refl w1.heap.size w1).alloc (Nat.le_refl _) _).frozen (p := ⟨w.heap.size, 0, none⟩) (by dsimp only; omega), hf1 _ _ (by simp) (by omega)]; simp [go_sem],
     by rw [((Below.refl w1.heap.size w1).alloc (Nat.le_refl _) _).frozen (p := ⟨w.heap.size, 1, none⟩) (by dsimp only; omega), hf1 _ _ (by simp) (by omega)]; simp [go_sem],
     hlt, by omega, by simp, Nat.le_refl _, (((But.refl _ _).alloc _).trans hb1).alloc _, hR1.below ((Below.refl _ _).alloc (Nat.le_refl _) _)⟩
  clear hc1 hf1 hR1 hb1
  go_upto_block 0 with (fail)
  generalize (w1.alloc (.cells #[.int .i64 k, .int .i64 0] 24)) = W at *
  generalize w1.heap.size = c at *
  have g1 := hV0.n; have g2 := hV0.fn
  go_cut [] (fun wc => ∃ n p', (-100 ≤ n ∧ n ≤ 100 ∧ p + 1 ≤ p' ∧ p' ≤ p + 2) ∧ VI R w.heap.size c w k n 0 0 p' wc)
  case first =>
    have hks : k = 0 ∨ k = 1 ∨ k = 2 ∨ k = 3 := by omega
    rcases hks with rfl | rfl | rfl | rfl
    · go_wp2_with fail
      go_meet
      exact ⟨0, p + 1, by omega, hV0⟩
    · go_wp2_with fail
      refine (pick_any R (p + 1) 9 _ (hV0.alloc _).rd (by omega) (by omega) (by omega)).mono ?_
      rintro e w2 ⟨r, rfl, hr, hb2, hR2⟩
      obtain ⟨v, hv, hv1, hv2⟩ := nine_at W r hr.1 hr.2 3
      have hV2 := (hV0.alloc _).go hb2 hR2
      have hlc := hV0.lc
      have hl2 := hV0.l2
      have hr2 := hV0.r2
      have hv' : w2.cell? ⟨W.heap.size, r.toNat, none⟩ = some (.int .i64 v) := by rw [hb2.cell (p := ⟨W.heap.size, r.toNat, none⟩) (by simp) (by dsimp only; omega)]; exact hv
      have k1 := hV2.n; have k2 := hV2.fn
      have hr0 := hr.1
      have hr1 := hr.2
      clear hv hb2 hR2
      go_wp2_with fail
      go_meet
      exact ⟨v, p + 1 + 1, by omega, hV2.setN v⟩
    · go_wp2_with fail
      refine (pick_any R (p + 1) 5 _ hV0.rd (by omega) (by omega) (by omega)).mono ?_
      rintro e w2 ⟨r, rfl, hr, hb2, hR2⟩
      have hV2 := hV0.go hb2 hR2
      have k1 := hV2.n; have k2 := hV2.fn
      clear hb2 hR2
      go_wp2_with fail
      go_meet
      exact ⟨r, p + 1 + 1, by omega, hV2.setN r⟩
    · go_wp2_with fail
      refine (pick_any R (p + 1) 4 _ hV0.rd (by omega) (by omega) (by omega)).mono ?_
      rintro e w2 ⟨r, rfl, hr, hb2, hR2⟩
      have hV2 := hV0.go hb2 hR2
      have k1 := hV2.n; have k2 := hV2.fn
      clear hb2 hR2
      go_wp2_with fail
      go_meet
      exact ⟨1 + r, p + 1 + 1, by omega, hV2.setN (1 + r)⟩
  case rest =>
    obtain ⟨n, p', hn, hV⟩ := hcut
    clear hV0 g1 g2
    go_wp2_with fail
    refine (pick_any R p' 30 _ hV.rd (by omega) (by omega) (by omega)).mono ?_
    rintro e w2 ⟨s, rfl, hs, hb2, hR2⟩
    have hV2 := hV.go hb2 hR2
    clear hb2 hR2 hV
    by_cases s0 : s = 0
    · subst s0
      go_wp2_with fail
      refine (pick_any R (p' + 1) 3 _ (hV2.alloc _).rd (by omega) (by omega) (by omega)).mono ?_
      rintro e w3 ⟨r, rfl, hr, hb3, hR3⟩
      obtain ⟨v, hv, hv1, hv2⟩ := three_at w2 r hr.1 hr.2 3
      have hV3' := (hV2.alloc _).go hb3 hR3
      have hlc := hV2.lc
      have hl2 := hV2.l2
      have hr2 := hV2.r2
      have hv' : w3.cell? ⟨w2.heap.size, r.toNat, none⟩ = some (.int .i64 v) := by rw [hb3.cell (p := ⟨w2.heap.size, r.toNat, none⟩) (by simp) (by dsimp only; omega)]; exact hv
      have k1 := hV3'.n; have k2 := hV3'.fn
      have hr0 := hr.1
      have hr1 := hr.2
      have hV3 := hV3'.setN v
      clear hv hb3 hR3
      have e1 := hV3.k; have e2 := hV3.n; have e5 := hV3.m; have e6 := hV3.o; have e7 := hV3.fm; have e8 := hV3.fo
      have e9 := hV3.l2; have e10 := hV3.r2; have e11 := hV3.new
      have hne : c ≠ w.heap.size := by omega
      go_upto_region 14 with (fail)
      clear k1 k2 hv' hV3'
      generalize (w3.setCell ⟨c, 1, none⟩ (.int .i64 v)) = w4 at *
      go_wp2_with fail
      exact bodyPost_ret (v := .agg #[.int .i64 k, .int .i64 v]) (by simp [results, Tryz.results77, go_sem, e5, e6]) rfl
        ⟨k, v, p' + 1 + 1, rfl, by omega, (hV3.but.setNew (by dsimp only; omega) _).setNew (by dsimp only; omega) _, by omega, (hV3.rd.but (C := w.heap.size) ((But.setCell (R := w.heap.size) (But.refl _ _) (p := ⟨w.heap.size, 0, none⟩) rfl _).setCell (p := ⟨w.heap.size, 1, none⟩) rfl _) (by omega))⟩
    · by_cases s1 : s = 1
      · subst s1
        go_wp2_with fail
        refine (pick_any R (p' + 1) 6 _ hV2.rd (by omega) (by omega) (by omega)).mono ?_
        rintro e w3 ⟨r, rfl, hr, hb3, hR3⟩
        have hV3' := hV2.go hb3 hR3
        have k1 := hV3'.k; have k2 := hV3'.fk
        have hV3 := hV3'.setK r
        clear hb3 hR3
        have e1 := hV3.k; have e2 := hV3.n; have e5 := hV3.m; have e6 := hV3.o; have e7 := hV3.fm; have e8 := hV3.fo
        have e9 := hV3.l2; have e10 := hV3.r2; have e11 := hV3.new
        have hne : c ≠ w.heap.size := by omega
        go_upto_region 14 with (fail)
        clear k1 k2 hV3'
        generalize (w3.setCell ⟨c, 0, none⟩ (.int .i64 r)) = w4 at *
        go_wp2_with fail
        exact bodyPost_ret (v := .agg #[.int .i64 r, .int .i64 n]) (by simp [results, Tryz.results77, go_sem, e5, e6]) rfl
          ⟨r, n, p' + 1 + 1, rfl, by omega, (hV3.but.setNew (by dsimp only; omega) _).setNew (by dsimp only; omega) _, by omega, (hV3.rd.but (C := w.heap.size) ((But.setCell (R := w.heap.size) (But.refl _ _) (p := ⟨w.heap.size, 0, none⟩) rfl _).setCell (p := ⟨w.heap.size, 1, none⟩) rfl _) (by omega))⟩
      · have hV3 := hV2
        have q0 : (s == 0) = false := by simp [s0]
        have q1 : (s == 1) = false := by simp [s1]
        clear hV2
        have e1 := hV3.k; have e2 := hV3.n; have e5 := hV3.m; have e6 := hV3.o; have e7 := hV3.fm; have e8 := hV3.fo
        have e9 := hV3.l2; have e10 := hV3.r2; have e11 := hV3.new
        have hne : c ≠ w.heap.size := by omega
        go_wp2_with fail
        exact bodyPost_ret (v := .agg #[.int .i64 k, .int .i64 n]) (by simp [results, Tryz.results77, go_sem, e5, e6]) rfl
          ⟨k, n, p' + 1, rfl, by omega, (hV3.but.setNew (by dsimp only; omega) _).setNew (by dsimp only; omega) _, by omega, (hV3.rd.but (C := w.heap.size) ((But.setCell (R := w.heap.size) (But.refl _ _) (p := ⟨w.heap.size, 0, none⟩) rfl _).setCell (p := ⟨w.heap.size, 1, none⟩) rfl _) (by omega))⟩
end Go.Proofs.YtjhpaoadpcnlnaaGreatDoor
