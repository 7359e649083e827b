/-
  The reader of drawn codes (spec.l6Open, pick), over this translation: whatever the code, a pick of n is a number from 0 to less than n, and turns nothing but the reader's own place.
  How a code that was handed to a law is opened by spec.l6Open, over this translation.
  What spec.l71Val draws, over this translation: whatever the code, some value; nothing turns but the reader's own place.
  A drawn step, over this translation: whatever the code, some step; nothing that was there turns but the reader.
  A drawn step, seldom spoilt, over this translation: some step.
  Drawn steps, over this translation: whatever the code, some steps in a row of their own; nothing that was there turns but the reader.
  The texts of spec.l71Texts, apart from any program: each is the text of ok steps. No condition.
  spec.l71Texts and the reader's 'of', over this translation: one of the texts.
  Drawn steps that are safe, over this translation: some ok steps in a row of their own; nothing that was there turns but the reader.
  Drawn steps, seldom spoilt, over this translation: some steps in a row of their own; nothing that was there turns but the reader.
-/
import Derived.Test.YtekmjgkjpdhedaaGreatDoorBut
import Derived.Deep.DeepCutAuto
import Derived.Deep.RegionHeld3
import Derived.Deep.DrawnRows
import Derived.Deep.CutBlock
import Derived.Test.YtekmjgkjpdhedaaGreatDoorOpForm
import Derived.Test.YtekmjgkjpdhedaaGreatDoorOwnOps
import Derived.Test.YtekmjgkjpdhedaaGreatDoorLines
import Derived.Test.YtekmjgkjpdhedaaGreatDoorSpecCodeRead
import Derived.Test.YtekmjgkjpdhedaaGreatDoorZc03
import Derived.Deep.LoopGhost
namespace Go.Proofs.YtekmjgkjpdhedaaGreatDoor
open Go.ChangeShapes Go.WideShapes Go.ChangeAt Go.RowKit Go.Joins
attribute [local go_sem ↓] Go.wp_at_zero Go.wp_at_succ
theorem xor_i64_nat (a b : Nat) (ha : a < 4611686018427387904) (hb : b < 4611686018427387904) : bits .xor .i64 (a : Int) (b : Int) = ((a ^^^ b : Nat) : Int) := by
  have hx : a ^^^ b < 2 ^ 62 := Nat.xor_lt_two_pow (by omega) (by omega)
  have h1 : (BitVec.ofInt 64 (a : Int)).toNat = a := by
    rw [BitVec.ofInt_natCast, BitVec.toNat_ofNat]; exact Nat.mod_eq_of_lt (by omega)
  have h2 : (BitVec.ofInt 64 (b : Int)).toNat = b := by
    rw [BitVec.ofInt_natCast, BitVec.toNat_ofNat]; exact Nat.mod_eq_of_lt (by omega)
  show IntKind.i64.wrap ((BitVec.ofInt 64 (a : Int) ^^^ BitVec.ofInt 64 (b : Int)).toNat : Int) = _
  rw [BitVec.toNat_xor, h1, h2]
  simp [IntKind.wrap, IntKind.bits, IntKind.signed]
  omega
theorem xor_i64_nonneg (a b : Int) (ha : 0 ≤ a) (ha' : a < 4611686018427387904) (hb : 0 ≤ b) (hb' : b < 4611686018427387904) : 0 ≤ bits .xor .i64 a b := by
  obtain ⟨x, rfl⟩ := Int.eq_ofNat_of_zero_le ha
  obtain ⟨y, rfl⟩ := Int.eq_ofNat_of_zero_le hb
  rw [xor_i64_nat x y (by omega) (by omega)]
  omega

/-! ### a reader in memory -/
/-- bytes that can be read: none, or a row of them below block R -/
def Bys (R : Nat) (a : Option Addr) (len : Nat) (w : World) : Prop :=
  len = 0 ∨ ∃ b off, a = some ⟨b, off, none⟩ ∧ b < R ∧ ∃ z : Nat → Int, (∀ i, 0 ≤ z i ∧ z i ≤ 255) ∧ ∀ i, i < len → w.cell? ⟨b, off + i, none⟩ = some (.int .u8 (z i))
structure Rd (R : Nat) (p : Int) (w : World) : Prop where
  lt : R < w.heap.size
  p0 : 0 ≤ p
  row : ∃ a len cap, w.cell? ⟨R, 0, none⟩ = some (.slice a len cap) ∧ len ≤ 2000 ∧ Bys R a len w
  place : w.cell? ⟨R, 1, none⟩ = some (.int .i64 p)
  free : w.frozen? ⟨R, 1, none⟩ = false
theorem Bys.but {R C : Nat} {a : Option Addr} {len : Nat} {w w' : World} (h : Bys R a len w) (hb : But C w w') (hR : R < w.heap.size) (hC : R ≤ C) : Bys R a len w' := by
  rcases h with h | ⟨b, off, ha, hlt, z, hz, hc⟩
  · exact .inl h
  · exact .inr ⟨b, off, ha, hlt, z, hz, fun i hi => (hb.cell (p := ⟨b, off + i, none⟩) (by dsimp only; omega) (by dsimp only; omega)).trans (hc i hi)⟩
/-- a reader stays where another block, made later, is written -/
theorem Rd.but {R C : Nat} {p : Int} {w w' : World} (h : Rd R p w) (hb : But C w w') (hC : R < C) : Rd R p w' := by
  obtain ⟨a, len, cap, h0, h1, h2⟩ := h.row
  have hl := h.lt
  exact ⟨Nat.lt_of_lt_of_le h.lt hb.size, h.p0, ⟨a, len, cap, (hb.cell (p := ⟨R, 0, none⟩) h.lt (by dsimp only; omega)).trans h0, h1, h2.but hb h.lt (by omega)⟩,
    (hb.cell (p := ⟨R, 1, none⟩) h.lt (by dsimp only; omega)).trans h.place, (hb.frozen (p := ⟨R, 1, none⟩) h.lt (by dsimp only; omega)).trans h.free⟩
theorem Rd.below {R : Nat} {p : Int} {w w' : World} (h : Rd R p w) (hb : Below w.heap.size w w') : Rd R p w' := h.but (But.of_below (R := R + 1) hb) (by omega)
/-- behind a pick -/
theorem Rd.next {R : Nat} {p : Int} {w : World} (h : Rd R p w) (q : Nat) : Rd R (p + 1) ((w.setCell ⟨R, 1, none⟩ (.int .i64 (p + 1))).drewN q) := by
  obtain ⟨a, len, cap, h0, h1, h2⟩ := h.row
  have hl := h.lt
  have hb : But R w ((w.setCell ⟨R, 1, none⟩ (.int .i64 (p + 1))).drewN q) := ((But.refl R w).setCell rfl _).drewN q
  have hp0 := h.p0
  have hpl := h.place
  have hfr := h.free
  exact ⟨Nat.lt_of_lt_of_le h.lt hb.size, by omega, ⟨a, len, cap, by simp [go_sem, h0], h1, h2.but hb h.lt (Nat.le_refl _)⟩,
    by simp [go_sem, hpl], by simp [go_sem, hfr]⟩

set_option maxHeartbeats 1000000 in
theorem pick_far (R b off len cap : Nat) (p n : Int) (z : Nat → Int) (w : World) (h0 : w.cell? ⟨R, 0, none⟩ = some (.slice (some ⟨b, off, none⟩) len cap)) (h1 : w.cell? ⟨R, 1, none⟩ = some (.int .i64 p)) (hf : w.frozen? ⟨R, 1, none⟩ = false)
    (hbR : b ≠ R) (hp0 : 0 ≤ p) (hp1 : p ≤ 1000000) (hl0 : 0 < len) (hl1 : len ≤ 2000) (hz : ∀ i, i < len → w.cell? ⟨b, off + i, none⟩ = some (.int .u8 (z i))) (hz0 : ∀ i, 0 ≤ z i) (hz1 : ∀ i, z i ≤ 255) (hn1 : 1 ≤ n) (hn2 : n ≤ 1000) (hge : (len : Int) ≤ p) :
    Calls Tryz.prog 30 #[.pointer (some ⟨R, 0, none⟩), .int .i64 n] w fun e w' => ∃ r q, e = .returned (.int .i64 r) ∧ 0 ≤ r ∧ r < n ∧ w' = (w.setCell ⟨R, 1, none⟩ (.int .i64 (p + 1))).drewN q := by
  have hlz : ((len : Int) == 0) = false := by simp; omega
  have hn' : ¬ n < 1 := by omega
  have a1 : 0 ≤ p % (len : Int) := Int.emod_nonneg _ (by omega)
  have a2 : p % (len : Int) < (len : Int) := Int.emod_lt_of_pos _ (by omega)
  have b1 : 0 ≤ (p * 7 + 3) % (len : Int) := Int.emod_nonneg _ (by omega)
  have b2 : (p * 7 + 3) % (len : Int) < (len : Int) := Int.emod_lt_of_pos _ (by omega)
  have c1 : 0 ≤ p / (len : Int) := Int.ediv_nonneg hp0 (by omega)
  have c2 : p / (len : Int) ≤ 1000000 := Int.le_trans (Int.ediv_le_self _ hp0) hp1
  obtain ⟨x, hx⟩ : ∃ x, z (p % (len : Int)).toNat = x := ⟨_, rfl⟩
  obtain ⟨y, hy⟩ : ∃ y, z ((p * 7 + 3) % (len : Int)).toNat = y := ⟨_, rfl⟩
  have x0 : 0 ≤ x := hx ▸ hz0 _
  have x1 : x ≤ 255 := hx ▸ hz1 _
  have y0 : 0 ≤ y := hy ▸ hz0 _
  have y1 : y ≤ 255 := hy ▸ hz1 _
  have k1 : w.cell? ⟨b, off + (p % (len : Int)).toNat, none⟩ = some (.int .u8 x) := by rw [hz _ (by omega), hx]
  have k2 : w.cell? ⟨b, off + ((p * 7 + 3) % (len : Int)).toNat, none⟩ = some (.int .u8 y) := by rw [hz _ (by omega), hy]
  clear hx hy hz hz0 hz1
  go_enter Tryz.func30, Tryz.ntmps30
  go_wp2_with fail
  go_quiet (fail)
  have hX0 : 0 ≤ x * 131 + y * 1117 + p * 29 + p / (len : Int) * 53 := by omega
  have hX1 : x * 131 + y * 1117 + p * 29 + p / (len : Int) * 53 ≤ 100000000 := by omega
  generalize x * 131 + y * 1117 + p * 29 + p / (len : Int) * 53 = X at *
  clear k1 k2 a1 a2 b1 b2 c1 c2
  have hB0 := xor_i64_nonneg X (X / 64) hX0 (by omega) (by omega) (by omega)
  go_wp2_with fail
  go_ret
  exact ⟨_, nq, rfl, Int.emod_nonneg _ (by omega), Int.emod_lt_of_pos _ (by omega), rfl⟩
set_option maxHeartbeats 1000000 in
theorem pick_near (R b off len cap : Nat) (p n : Int) (z : Nat → Int) (w : World) (h0 : w.cell? ⟨R, 0, none⟩ = some (.slice (some ⟨b, off, none⟩) len cap)) (h1 : w.cell? ⟨R, 1, none⟩ = some (.int .i64 p)) (hf : w.frozen? ⟨R, 1, none⟩ = false)
    (hbR : b ≠ R) (hp0 : 0 ≤ p) (hp1 : p ≤ 1000000) (hl0 : 0 < len) (hl1 : len ≤ 2000) (hz : ∀ i, i < len → w.cell? ⟨b, off + i, none⟩ = some (.int .u8 (z i))) (hz0 : ∀ i, 0 ≤ z i) (hz1 : ∀ i, z i ≤ 255) (hn1 : 1 ≤ n) (hn2 : n ≤ 1000) (hge : p < (len : Int)) :
    Calls Tryz.prog 30 #[.pointer (some ⟨R, 0, none⟩), .int .i64 n] w fun e w' => ∃ r, e = .returned (.int .i64 r) ∧ 0 ≤ r ∧ r < n ∧ w' = w.setCell ⟨R, 1, none⟩ (.int .i64 (p + 1)) := by
  have hlz : ((len : Int) == 0) = false := by simp; omega
  have hn' : ¬ n < 1 := by omega
  obtain ⟨x, hx⟩ : ∃ x, z p.toNat = x := ⟨_, rfl⟩
  have x0 : 0 ≤ x := hx ▸ hz0 _
  have x1 : x ≤ 255 := hx ▸ hz1 _
  have k1 : w.cell? ⟨b, off + p.toNat, none⟩ = some (.int .u8 x) := by rw [hz _ (by omega), hx]
  clear hx hz hz0 hz1
  go_enter Tryz.func30, Tryz.ntmps30
  go_wp2_with fail
  go_ret
  exact ⟨_, rfl, Int.emod_nonneg _ (by omega), Int.emod_lt_of_pos _ (by omega), rfl⟩
set_option maxHeartbeats 1000000 in
theorem pick_none (R cap : Nat) (a : Option Addr) (p n : Int) (w : World) (h0 : w.cell? ⟨R, 0, none⟩ = some (.slice a 0 cap)) (h1 : w.cell? ⟨R, 1, none⟩ = some (.int .i64 p)) (hf : w.frozen? ⟨R, 1, none⟩ = false)
    (hp0 : 0 ≤ p) (hp1 : p ≤ 1000000) (hn1 : 1 ≤ n) (hn2 : n ≤ 1000) :
    Calls Tryz.prog 30 #[.pointer (some ⟨R, 0, none⟩), .int .i64 n] w fun e w' => ∃ r, e = .returned (.int .i64 r) ∧ 0 ≤ r ∧ r < n ∧ w' = w.setCell ⟨R, 1, none⟩ (.int .i64 (p + 1)) := by
  have hn' : ¬ n < 1 := by omega
  go_enter Tryz.func30, Tryz.ntmps30
  go_wp2_with fail
  go_ret
  exact ⟨0, rfl, by omega, by omega, rfl⟩
/-- a pick of n, whatever the code -/
theorem pick_any (R : Nat) (p n : Int) (w : World) (h : Rd R p w) (hp1 : p ≤ 1000000) (hn1 : 1 ≤ n) (hn2 : n ≤ 1000) :
    Calls Tryz.prog 30 #[.pointer (some ⟨R, 0, none⟩), .int .i64 n] w fun e w' => ∃ r, e = .returned (.int .i64 r) ∧ (0 ≤ r ∧ r < n) ∧ But R w w' ∧ Rd R (p + 1) w' := by
  have key : Calls Tryz.prog 30 #[.pointer (some ⟨R, 0, none⟩), .int .i64 n] w fun e w' => ∃ r q, e = .returned (.int .i64 r) ∧ 0 ≤ r ∧ r < n ∧ w' = (w.setCell ⟨R, 1, none⟩ (.int .i64 (p + 1))).drewN q := by
    obtain ⟨a, len, cap, h0, h1, h2⟩ := h.row
    rcases h2 with rfl | ⟨b, off, rfl, hlt, z, hz, hc⟩
    · exact (pick_none R cap a p n w h0 h.place h.free h.p0 hp1 hn1 hn2).mono fun e w' ⟨r, he, h1, h2, hw⟩ => ⟨r, 0, he, h1, h2, hw⟩
    · by_cases hl : len = 0
      · subst hl; exact (pick_none R cap _ p n w h0 h.place h.free h.p0 hp1 hn1 hn2).mono fun e w' ⟨r, he, h1, h2, hw⟩ => ⟨r, 0, he, h1, h2, hw⟩
      · by_cases hge : (len : Int) ≤ p
        · exact pick_far R b off len cap p n z w h0 h.place h.free (by omega) h.p0 hp1 (by omega) h1 hc (fun i => (hz i).1) (fun i => (hz i).2) hn1 hn2 hge
        · exact (pick_near R b off len cap p n z w h0 h.place h.free (by omega) h.p0 hp1 (by omega) h1 hc (fun i => (hz i).1) (fun i => (hz i).2) hn1 hn2 (by omega)).mono fun e w' ⟨r, he, h1, h2, hw⟩ => ⟨r, 0, he, h1, h2, hw⟩
  refine key.mono fun e w' ⟨r, q, he, hr0, hr1, hw⟩ => ⟨r, he, ⟨hr0, hr1⟩, ?_, ?_⟩
  · rw [hw]; exact ((But.refl R w).setCell rfl _).drewN q
  · rw [hw]; exact h.next q
end Go.Proofs.YtekmjgkjpdhedaaGreatDoor
namespace Go.Proofs.YtekmjgkjpdhedaaGreatDoor
open Go.ChangeShapes Go.WideShapes Go.ChangeAt Go.RowKit Go.Joins
/-- what the walk is told of a code: so many bytes, that can be read, and room behind them -/
def Code0 (w : World) (a : Option Addr) (len cap : Nat) : Prop := len ≤ cap ∧ cap ≤ maxLen ∧ Bys w.heap.size a len w
theorem Code0.below {w w' : World} {a : Option Addr} {len cap : Nat} (h : Code0 w a len cap) (hb : Below w.heap.size w w') : Code0 w' a len cap := by
  obtain ⟨h0, h1, h2⟩ := h
  refine ⟨h0, h1, ?_⟩
  rcases h2 with h | ⟨b, off, ha, hlt, z, hz, hc⟩
  · exact .inl h
  · exact .inr ⟨b, off, ha, Nat.lt_of_lt_of_le hlt hb.size, z, hz, fun i hi => (hb.cell (p := ⟨b, off + i, none⟩) hlt).trans (hc i hi)⟩
theorem rd_new {w : World} {a : Option Addr} {len cap : Nat} (hl : len ≤ 2000) (hB : Bys w.heap.size a len w) : Rd w.heap.size 0 (w.alloc (.cells #[.slice a len cap, .int .i64 0] 72)) := by
  refine ⟨by simp, by omega, ⟨a, len, cap, by simp [go_sem], hl, ?_⟩, by simp [go_sem], by simp [go_sem]⟩
  rcases hB with h | ⟨b, off, ha, hlt, z, hz, hc⟩
  · exact .inl h
  · exact .inr ⟨b, off, ha, hlt, z, hz, fun i hi => by rw [World.cell?_alloc_past _ _ _ hlt]; exact hc i hi⟩
set_option maxHeartbeats 400000 in
theorem open_short (a : Option Addr) (len cap : Nat) (w : World) (hl : len ≤ 2000) :
    Calls Tryz.prog 25 #[.slice a len cap] w fun e w' => e = .returned (.pointer (some ⟨w.heap.size, 0, none⟩)) ∧ w' = w.alloc (.cells #[.slice a len cap, .int .i64 0] 72) := by
  have h : ¬ (2000 : Int) < (len : Int) := by omega
  go_enter Tryz.func25, Tryz.ntmps25
  go_wp2_with fail
  go_ret
  exact ⟨rfl, rfl⟩
set_option maxHeartbeats 400000 in
theorem open_long (b off len cap : Nat) (w : World) (hl : 2000 < len) (hc : len ≤ cap) (hm : cap ≤ maxLen) :
    Calls Tryz.prog 25 #[.slice (some ⟨b, off, none⟩) len cap] w fun e w' => e = .returned (.pointer (some ⟨w.heap.size, 0, none⟩)) ∧ w' = w.alloc (.cells #[.slice (some ⟨b, off, none⟩) 2000 cap, .int .i64 0] 72) := by
  unfold maxLen at hm
  have h : (2000 : Int) < (len : Int) := by omega
  have h2 : (2000 : Int) ≤ (cap : Int) := by omega
  go_enter Tryz.func25, Tryz.ntmps25
  go_wp2_with fail
  go_ret
  exact ⟨rfl, rfl⟩
/-- a code is opened -/
theorem open_any (a : Option Addr) (len cap : Nat) (w : World) (h : Code0 w a len cap) :
    Calls Tryz.prog 25 #[.slice a len cap] w fun e w' => e = .returned (.pointer (some ⟨w.heap.size, 0, none⟩)) ∧ Below w.heap.size w w' ∧ Rd w.heap.size 0 w' := by
  obtain ⟨h0, h1, h2⟩ := h
  by_cases hl : len ≤ 2000
  · refine (open_short a len cap w hl).mono fun e w' ⟨he, hw⟩ => ⟨he, ?_, ?_⟩
    · rw [hw]; exact (Below.refl _ _).alloc (Nat.le_refl _) _
    · rw [hw]; exact rd_new hl h2
  · rcases h2 with h | ⟨b, off, rfl, hlt, z, hz, hc⟩
    · omega
    · refine (open_long b off len cap w (by omega) h0 h1).mono fun e w' ⟨he, hw⟩ => ⟨he, ?_, ?_⟩
      · rw [hw]; exact (Below.refl _ _).alloc (Nat.le_refl _) _
      · rw [hw]; exact rd_new (Nat.le_refl _) (.inr ⟨b, off, rfl, hlt, z, hz, fun i hi => hc i (by omega)⟩)
/-- out of a slice of bytes that came in -/
theorem code_of_row {W : World} {a : Option Addr} {len cap : Nat} {zs : List Int}
    (h : (a = none ∧ len = 0 ∧ cap = 0 ∧ zs = []) ∨ ∃ x, a = some x ∧ len ≤ cap ∧ cap ≤ maxLen ∧ zs.length = cap ∧ (∀ i, i < zs.length → W.cell? (x.add i) = some (.int .u8 (zs.getD i 0))) ∧ ∀ n ∈ zs, (Lit.int .u8 n).wf = true) : Code0 W a len cap := by
  rcases h with ⟨rfl, rfl, rfl, rfl⟩ | ⟨x, rfl, hl, hm, hz, hcell, hwz⟩
  · exact ⟨Nat.le_refl _, by unfold maxLen; omega, .inl rfl⟩
  · refine ⟨hl, hm, ?_⟩
    by_cases h0 : len = 0
    · exact .inl h0
    · obtain ⟨b, off, spot⟩ := x
      have hc := hcell 0 (by omega)
      have hspot : spot = none := by simpa [Addr.add] using World.cell?_spot hc
      subst hspot
      have hlt : b < W.heap.size := by simpa [Addr.add] using World.block_lt_of_cell? _ _ hc
      refine .inr ⟨b, off, rfl, hlt, fun i => zs.getD i 0, fun i => ?_, fun i hi => ?_⟩
      · by_cases hi : i < zs.length
        · have hw := hwz (zs.getD i 0) (by rw [List.getD_eq_getElem?_getD, List.getElem?_eq_getElem hi]; exact List.getElem_mem hi)
          have := bounds_u8 hw
          exact this
        · have : zs.getD i 0 = 0 := by rw [List.getD_eq_getElem?_getD, List.getElem?_eq_none (by omega)]; rfl
          show 0 ≤ zs.getD i 0 ∧ zs.getD i 0 ≤ 255; rw [this]; omega
      · have := hcell i (by omega)
        by_cases hi0 : i = 0
        · subst hi0; simpa [Addr.add] using this
        · simpa [Addr.add, hi0] using this
end Go.Proofs.YtekmjgkjpdhedaaGreatDoor
namespace Go.Proofs.YtekmjgkjpdhedaaGreatDoor
open Go.ChangeShapes Go.WideShapes Go.ChangeAt Go.RowKit Go.Joins
attribute [local go_sem ↓] Go.wp_at_zero Go.wp_at_succ
/-- two boxes of two numbers each, of the walk's own, and a reader below them -/
structure VI (R c2 c : Nat) (w : World) (k n m o p : Int) (wc : World) : Prop where
  k : wc.cell? ⟨c, 0, none⟩ = some (.int .i64 k)
  n : wc.cell? ⟨c, 1, none⟩ = some (.int .i64 n)
  fk : wc.frozen? ⟨c, 0, none⟩ = false
  fn : wc.frozen? ⟨c, 1, none⟩ = false
  m : wc.cell? ⟨c2, 0, none⟩ = some (.int .i64 m)
  o : wc.cell? ⟨c2, 1, none⟩ = some (.int .i64 o)
  fm : wc.frozen? ⟨c2, 0, none⟩ = false
  fo : wc.frozen? ⟨c2, 1, none⟩ = false
  r2 : R < c2
  l2 : c2 < c
  lc : c < wc.heap.size
  new : w.heap.size ≤ c2
  but : But R w wc
  rd : Rd R p wc
theorem VI.go {R c2 c : Nat} {w wc w' : World} {k n m o p p' : Int} (h : VI R c2 c w k n m o p wc) (hb : But R wc w') (hr : Rd R p' w') : VI R c2 c w k n m o p' w' := by
  have h1 := h.r2
  have h2 := h.l2
  have h3 := h.lc
  obtain ⟨hc, hf⟩ := butcell hb
  exact ⟨by rw [hc _ _ (by omega) (by omega)]; exact h.k, by rw [hc _ _ (by omega) (by omega)]; exact h.n, by rw [hf _ _ (by omega) (by omega)]; exact h.fk, by rw [hf _ _ (by omega) (by omega)]; exact h.fn,
    by rw [hc _ _ (by omega) (by omega)]; exact h.m, by rw [hc _ _ (by omega) (by omega)]; exact h.o, by rw [hf _ _ (by omega) (by omega)]; exact h.fm, by rw [hf _ _ (by omega) (by omega)]; exact h.fo,
    h1, h2, Nat.lt_of_lt_of_le h3 hb.size, h.new, h.but.trans hb, hr⟩
theorem VI.alloc {R c2 c : Nat} {w wc : World} {k n m o p : Int} (h : VI R c2 c w k n m o p wc) (b : Obj) : VI R c2 c w k n m o p (wc.alloc b) :=
  h.go ((But.refl _ _).alloc _) (h.rd.below ((Below.refl _ _).alloc (Nat.le_refl _) _))
theorem VI.setN {R c2 c : Nat} {w wc : World} {k n m o p : Int} (h : VI R c2 c w k n m o p wc) (v : Int) : VI R c2 c w k v m o p (wc.setCell ⟨c, 1, none⟩ (.int .i64 v)) := by
  have h1 := h.r2
  have h2 := h.l2
  have hk := h.k; have hn := h.n; have hfk := h.fk; have hfn := h.fn; have hm := h.m; have ho := h.o; have hfm := h.fm; have hfo := h.fo; have hnew := h.new
  exact ⟨by simp [go_sem, hk], by simp [go_sem, hn], by simp [go_sem, hfk], by simp [go_sem, hfn], by simp [go_sem, hm], by simp [go_sem, ho], by simp [go_sem, hfm], by simp [go_sem, hfo],
    h1, h2, by simpa [World.setCell] using h.lc, hnew, h.but.setNew (by dsimp only; omega) _, h.rd.but (C := c) (But.setCell (R := c) (But.refl _ _) (p := ⟨c, 1, none⟩) rfl _) (by omega)⟩
theorem VI.setK {R c2 c : Nat} {w wc : World} {k n m o p : Int} (h : VI R c2 c w k n m o p wc) (v : Int) : VI R c2 c w v n m o p (wc.setCell ⟨c, 0, none⟩ (.int .i64 v)) := by
  have h1 := h.r2
  have h2 := h.l2
  have hk := h.k; have hn := h.n; have hfk := h.fk; have hfn := h.fn; have hm := h.m; have ho := h.o; have hfm := h.fm; have hfo := h.fo; have hnew := h.new
  exact ⟨by simp [go_sem, hk], by simp [go_sem, hn], by simp [go_sem, hfk], by simp [go_sem, hfn], by simp [go_sem, hm], by simp [go_sem, ho], by simp [go_sem, hfm], by simp [go_sem, hfo],
    h1, h2, by simpa [World.setCell] using h.lc, hnew, h.but.setNew (by dsimp only; omega) _, h.rd.but (C := c) (But.setCell (R := c) (But.refl _ _) (p := ⟨c, 0, none⟩) rfl _) (by omega)⟩
theorem nine_at (w : World) (r : Int) (h0 : 0 ≤ r) (h1 : r < 9) (t : TypeId) : ∃ v : Int, (w.alloc (.cells #[.int .i64 0, .int .i64 1, .int .i64 2, .int .i64 3, .int .i64 (-1), .int .i64 7, .int .i64 50, .int .i64 99, .int .i64 (-99)] t)).cell? ⟨w.heap.size, r.toNat, none⟩ = some (.int .i64 v) ∧ -100 ≤ v ∧ v ≤ 100 := by
  have : r = 0 ∨ r = 1 ∨ r = 2 ∨ r = 3 ∨ r = 4 ∨ r = 5 ∨ r = 6 ∨ r = 7 ∨ r = 8 := by omega
  rcases this with rfl | rfl | rfl | rfl | rfl | rfl | rfl | rfl | rfl <;> simp [go_sem]
theorem three_at (w : World) (r : Int) (h0 : 0 ≤ r) (h1 : r < 3) (t : TypeId) : ∃ v : Int, (w.alloc (.cells #[.int .i64 (-100), .int .i64 100, .int .i64 10] t)).cell? ⟨w.heap.size, r.toNat, none⟩ = some (.int .i64 v) ∧ -100 ≤ v ∧ v ≤ 100 := by
  have : r = 0 ∨ r = 1 ∨ r = 2 := by omega
  rcases this with rfl | rfl | rfl <;> simp [go_sem]

set_option maxHeartbeats 2000000 in
/-- a drawn value -/
theorem val_any (R : Nat) (p : Int) (w : World) (h : Rd R p w) (hp : p ≤ 900000) :
    Calls Tryz.prog 72 #[.pointer (some ⟨R, 0, none⟩)] w fun e w' => ∃ k n p', e = .returned (.agg #[.int .i64 k, .int .i64 n]) ∧ (-100 ≤ k ∧ k ≤ 100 ∧ -100 ≤ n ∧ n ≤ 100) ∧ But R w w' ∧ (p ≤ p' ∧ p' ≤ p + 5) ∧ Rd R p' w' := by
  have hlt := h.lt
  have hp0 := h.p0
  go_enter Tryz.func72, Tryz.ntmps72
  go_wp2_with fail
  refine (pick_any R p 4 _ (h.below ((Below.refl _ _).alloc (Nat.le_refl _) _)) (by omega) (by omega) (by omega)).mono ?_
  rintro e w1 ⟨k, rfl, hk, hb1, hR1⟩
  obtain ⟨hc1, hf1⟩ := butcell hb1
  have hz1 := hb1.size
  simp at hz1
  have hV0 : VI R w.heap.size w1.heap.size w k 0 0 0 (p + 1) (w1.alloc (.cells #[.int .i64 k, .int .i64 0] 41)) :=
    ⟨by simp [go_sem], by simp [go_sem], by simp [go_sem], by simp [go_sem],
     by rw [World.cell?_alloc_past _ _ _ (by omega), hc1 _ _ (by simp) (by omega)]; simp [go_sem], by rw [World.cell?_alloc_past _ _ _ (by omega), hc1 _ _ (by simp) (by omega)]; simp [go_sem],
     by rw [((Below.refl w1.heap.size w1).alloc (Nat.le_refl _) _).frozen (p := ⟨w.heap.size, 0, none⟩) (by dsimp only; omega), hf1 _ _ (by simp) (by omega)]; simp [go_sem],
     by rw [((Below.refl w1.heap.size w1).alloc (Nat.le_refl _) _).frozen (p := ⟨w.heap.size, 1, none⟩) (by dsimp only; omega), hf1 _ _ (by simp) (by omega)]; simp [go_sem],
     hlt, by omega, by simp, Nat.le_refl _, (((But.refl _ _).alloc _).trans hb1).alloc _, hR1.below ((Below.refl _ _).alloc (Nat.le_refl _) _)⟩
  clear hc1 hf1 hR1 hb1
  go_upto_block 0 with (fail)
  generalize (w1.alloc (.cells #[.int .i64 k, .int .i64 0] 41)) = W at *
  generalize w1.heap.size = c at *
  have g1 := hV0.n; have g2 := hV0.fn
  go_cut [] (fun wc => ∃ n p', (-100 ≤ n ∧ n ≤ 100 ∧ p + 1 ≤ p' ∧ p' ≤ p + 2) ∧ VI R w.heap.size c w k n 0 0 p' wc)
  case first =>
    have hks : k = 0 ∨ k = 1 ∨ k = 2 ∨ k = 3 := by omega
    rcases hks with rfl | rfl | rfl | rfl
    · go_wp2_with fail
      go_meet
      exact ⟨0, p + 1, by omega, hV0⟩
    · go_wp2_with fail
      refine (pick_any R (p + 1) 9 _ (hV0.alloc _).rd (by omega) (by omega) (by omega)).mono ?_
      rintro e w2 ⟨r, rfl, hr, hb2, hR2⟩
      obtain ⟨v, hv, hv1, hv2⟩ := nine_at W r hr.1 hr.2 3
      have hV2 := (hV0.alloc _).go hb2 hR2
      have hlc := hV0.lc
      have hl2 := hV0.l2
      have hr2 := hV0.r2
      have hv' : w2.cell? ⟨W.heap.size, r.toNat, none⟩ = some (.int .i64 v) := by rw [hb2.cell (p := ⟨W.heap.size, r.toNat, none⟩) (by simp) (by dsimp only; omega)]; exact hv
      have k1 := hV2.n; have k2 := hV2.fn
      have hr0 := hr.1
      have hr1 := hr.2
      clear hv hb2 hR2
      go_wp2_with fail
      go_meet
      exact ⟨v, p + 1 + 1, by omega, hV2.setN v⟩
    · go_wp2_with fail
      refine (pick_any R (p + 1) 5 _ hV0.rd (by omega) (by omega) (by omega)).mono ?_
      rintro e w2 ⟨r, rfl, hr, hb2, hR2⟩
      have hV2 := hV0.go hb2 hR2
      have k1 := hV2.n; have k2 := hV2.fn
      clear hb2 hR2
      go_wp2_with fail
      go_meet
      exact ⟨r, p + 1 + 1, by omega, hV2.setN r⟩
    · go_wp2_with fail
      refine (pick_any R (p + 1) 4 _ hV0.rd (by omega) (by omega) (by omega)).mono ?_
      rintro e w2 ⟨r, rfl, hr, hb2, hR2⟩
      have hV2 := hV0.go hb2 hR2
      have k1 := hV2.n; have k2 := hV2.fn
      clear hb2 hR2
      go_wp2_with fail
      go_meet
      exact ⟨1 + r, p + 1 + 1, by omega, hV2.setN (1 + r)⟩
  case rest =>
    obtain ⟨n, p', hn, hV⟩ := hcut
    clear hV0 g1 g2
    go_wp2_with fail
    refine (pick_any R p' 30 _ hV.rd (by omega) (by omega) (by omega)).mono ?_
    rintro e w2 ⟨s, rfl, hs, hb2, hR2⟩
    have hV2 := hV.go hb2 hR2
    clear hb2 hR2 hV
    by_cases s0 : s = 0
    · subst s0
      go_wp2_with fail
      refine (pick_any R (p' + 1) 3 _ (hV2.alloc _).rd (by omega) (by omega) (by omega)).mono ?_
      rintro e w3 ⟨r, rfl, hr, hb3, hR3⟩
      obtain ⟨v, hv, hv1, hv2⟩ := three_at w2 r hr.1 hr.2 3
      have hV3' := (hV2.alloc _).go hb3 hR3
      have hlc := hV2.lc
      have hl2 := hV2.l2
      have hr2 := hV2.r2
      have hv' : w3.cell? ⟨w2.heap.size, r.toNat, none⟩ = some (.int .i64 v) := by rw [hb3.cell (p := ⟨w2.heap.size, r.toNat, none⟩) (by simp) (by dsimp only; omega)]; exact hv
      have k1 := hV3'.n; have k2 := hV3'.fn
      have hr0 := hr.1
      have hr1 := hr.2
      have hV3 := hV3'.setN v
      clear hv hb3 hR3
      have e1 := hV3.k; have e2 := hV3.n; have e5 := hV3.m; have e6 := hV3.o; have e7 := hV3.fm; have e8 := hV3.fo
      have e9 := hV3.l2; have e10 := hV3.r2; have e11 := hV3.new
      have hne : c ≠ w.heap.size := by omega
      go_upto_region 14 with (fail)
      clear k1 k2 hv' hV3'
      generalize (w3.setCell ⟨c, 1, none⟩ (.int .i64 v)) = w4 at *
      go_wp2_with fail
      exact bodyPost_ret (v := .agg #[.int .i64 k, .int .i64 v]) (by simp [results, Tryz.results72, go_sem, e5, e6]) rfl
        ⟨k, v, p' + 1 + 1, rfl, by omega, (hV3.but.setNew (by dsimp only; omega) _).setNew (by dsimp only; omega) _, by omega, (hV3.rd.but (C := w.heap.size) ((But.setCell (R := w.heap.size) (But.refl _ _) (p := ⟨w.heap.size, 0, none⟩) rfl _).setCell (p := ⟨w.heap.size, 1, none⟩) rfl _) (by omega))⟩
    · by_cases s1 : s = 1
      · subst s1
        go_wp2_with fail
        refine (pick_any R (p' + 1) 6 _ hV2.rd (by omega) (by omega) (by omega)).mono ?_
        rintro e w3 ⟨r, rfl, hr, hb3, hR3⟩
        have hV3' := hV2.go hb3 hR3
        have k1 := hV3'.k; have k2 := hV3'.fk
        have hV3 := hV3'.setK r
        clear hb3 hR3
        have e1 := hV3.k; have e2 := hV3.n; have e5 := hV3.m; have e6 := hV3.o; have e7 := hV3.fm; have e8 := hV3.fo
        have e9 := hV3.l2; have e10 := hV3.r2; have e11 := hV3.new
        have hne : c ≠ w.heap.size := by omega
        go_upto_region 14 with (fail)
        clear k1 k2 hV3'
        generalize (w3.setCell ⟨c, 0, none⟩ (.int .i64 r)) = w4 at *
        go_wp2_with fail
        exact bodyPost_ret (v := .agg #[.int .i64 r, .int .i64 n]) (by simp [results, Tryz.results72, go_sem, e5, e6]) rfl
          ⟨r, n, p' + 1 + 1, rfl, by omega, (hV3.but.setNew (by dsimp only; omega) _).setNew (by dsimp only; omega) _, by omega, (hV3.rd.but (C := w.heap.size) ((But.setCell (R := w.heap.size) (But.refl _ _) (p := ⟨w.heap.size, 0, none⟩) rfl _).setCell (p := ⟨w.heap.size, 1, none⟩) rfl _) (by omega))⟩
      · have hV3 := hV2
        have q0 : (s == 0) = false := by simp [s0]
        have q1 : (s == 1) = false := by simp [s1]
        clear hV2
        have e1 := hV3.k; have e2 := hV3.n; have e5 := hV3.m; have e6 := hV3.o; have e7 := hV3.fm; have e8 := hV3.fo
        have e9 := hV3.l2; have e10 := hV3.r2; have e11 := hV3.new
        have hne : c ≠ w.heap.size := by omega
        go_wp2_with fail
        exact bodyPost_ret (v := .agg #[.int .i64 k, .int .i64 n]) (by simp [results, Tryz.results72, go_sem, e5, e6]) rfl
          ⟨k, n, p' + 1, rfl, by omega, (hV3.but.setNew (by dsimp only; omega) _).setNew (by dsimp only; omega) _, by omega, (hV3.rd.but (C := w.heap.size) ((But.setCell (R := w.heap.size) (But.refl _ _) (p := ⟨w.heap.size, 0, none⟩) rfl _).setCell (p := ⟨w.heap.size, 1, none⟩) rfl _) (by omega))⟩
end Go.Proofs.YtekmjgkjpdhedaaGreatDoor
namespace Go.Proofs.YtekmjgkjpdhedaaGreatDoor
open Go.ChangeShapes Go.WideShapes Go.ChangeAt Go.RowKit Go.Joins
attribute [local go_sem ↓] Go.wp_at_zero Go.wp_at_succ
/-- a box of a step, of the walk's own, and a reader below it -/
structure OI (R d c : Nat) (w : World) (k r s t a b p : Int) (wc : World) : Prop where
  c0 : wc.cell? ⟨c, 0, none⟩ = some (.int .i64 k)
  c1 : wc.cell? ⟨c, 1, none⟩ = some (.int .i64 r)
  c2 : wc.cell? ⟨c, 2, none⟩ = some (.int .i64 s)
  c3 : wc.cell? ⟨c, 3, none⟩ = some (.int .i64 t)
  c4 : wc.cell? ⟨c, 4, none⟩ = some (.int .i64 a)
  c5 : wc.cell? ⟨c, 5, none⟩ = some (.int .i64 b)
  f0 : wc.frozen? ⟨c, 0, none⟩ = false
  f1 : wc.frozen? ⟨c, 1, none⟩ = false
  f2 : wc.frozen? ⟨c, 2, none⟩ = false
  f3 : wc.frozen? ⟨c, 3, none⟩ = false
  f4 : wc.frozen? ⟨c, 4, none⟩ = false
  f5 : wc.frozen? ⟨c, 5, none⟩ = false
  g0 : wc.cell? ⟨d, 0, none⟩ = some (.int .i64 0)
  g1 : wc.cell? ⟨d, 1, none⟩ = some (.int .i64 0)
  g2 : wc.cell? ⟨d, 2, none⟩ = some (.int .i64 0)
  g3 : wc.cell? ⟨d, 3, none⟩ = some (.int .i64 0)
  g4 : wc.cell? ⟨d, 4, none⟩ = some (.int .i64 0)
  g5 : wc.cell? ⟨d, 5, none⟩ = some (.int .i64 0)
  e0 : wc.frozen? ⟨d, 0, none⟩ = false
  e1 : wc.frozen? ⟨d, 1, none⟩ = false
  e2 : wc.frozen? ⟨d, 2, none⟩ = false
  e3 : wc.frozen? ⟨d, 3, none⟩ = false
  e4 : wc.frozen? ⟨d, 4, none⟩ = false
  e5 : wc.frozen? ⟨d, 5, none⟩ = false
  rd' : R < d
  dc : d < c
  lc : c < wc.heap.size
  new : w.heap.size ≤ d
  but : But R w wc
  rd : Rd R p wc
theorem OI.go {R d c : Nat} {w wc : World} {k r s t a b p : Int} (h : OI R d c w k r s t a b p wc) {w' : World} {p' : Int} (hb : But R wc w') (hr : Rd R p' w') : OI R d c w k r s t a b p' w' := by
  have h1 := h.rd'
  have h2 := h.dc
  have h3 := h.lc
  obtain ⟨hc, hf⟩ := butcell hb
  exact ⟨by rw [hc _ _ (by omega) (by omega)]; exact h.c0, by rw [hc _ _ (by omega) (by omega)]; exact h.c1, by rw [hc _ _ (by omega) (by omega)]; exact h.c2, by rw [hc _ _ (by omega) (by omega)]; exact h.c3, by rw [hc _ _ (by omega) (by omega)]; exact h.c4, by rw [hc _ _ (by omega) (by omega)]; exact h.c5,
    by rw [hf _ _ (by omega) (by omega)]; exact h.f0, by rw [hf _ _ (by omega) (by omega)]; exact h.f1, by rw [hf _ _ (by omega) (by omega)]; exact h.f2, by rw [hf _ _ (by omega) (by omega)]; exact h.f3, by rw [hf _ _ (by omega) (by omega)]; exact h.f4, by rw [hf _ _ (by omega) (by omega)]; exact h.f5,
    by rw [hc _ _ (by omega) (by omega)]; exact h.g0, by rw [hc _ _ (by omega) (by omega)]; exact h.g1, by rw [hc _ _ (by omega) (by omega)]; exact h.g2, by rw [hc _ _ (by omega) (by omega)]; exact h.g3, by rw [hc _ _ (by omega) (by omega)]; exact h.g4, by rw [hc _ _ (by omega) (by omega)]; exact h.g5,
    by rw [hf _ _ (by omega) (by omega)]; exact h.e0, by rw [hf _ _ (by omega) (by omega)]; exact h.e1, by rw [hf _ _ (by omega) (by omega)]; exact h.e2, by rw [hf _ _ (by omega) (by omega)]; exact h.e3, by rw [hf _ _ (by omega) (by omega)]; exact h.e4, by rw [hf _ _ (by omega) (by omega)]; exact h.e5,
    h1, h2, Nat.lt_of_lt_of_le h3 hb.size, h.new, h.but.trans hb, hr⟩
theorem OI.alloc {R d c : Nat} {w wc : World} {k r s t a b p : Int} (h : OI R d c w k r s t a b p wc) (b' : Obj) : OI R d c w k r s t a b p (wc.alloc b') :=
  h.go ((But.refl _ _).alloc _) (h.rd.below ((Below.refl _ _).alloc (Nat.le_refl _) _))
theorem OI.below {R d c : Nat} {w wc : World} {k r s t a b p : Int} (h : OI R d c w k r s t a b p wc) {w' : World} (hb : Below wc.heap.size wc w') : OI R d c w k r s t a b p w' := h.go (But.of_below hb) (h.rd.below hb)
theorem OI.set0 {R d c : Nat} {w wc : World} {k r s t a b p : Int} (h : OI R d c w k r s t a b p wc) (v : Int) : OI R d c w v r s t a b p (wc.setCell ⟨c, 0, none⟩ (.int .i64 v)) := by
  have h1 := h.rd'
  have h2 := h.dc
  have hnew := h.new
  have c0 := h.c0; have f0 := h.f0; have g0 := h.g0; have e0 := h.e0; have c1 := h.c1; have f1 := h.f1; have g1 := h.g1; have e1 := h.e1; have c2 := h.c2; have f2 := h.f2; have g2 := h.g2; have e2 := h.e2; have c3 := h.c3; have f3 := h.f3; have g3 := h.g3; have e3 := h.e3; have c4 := h.c4; have f4 := h.f4; have g4 := h.g4; have e4 := h.e4; have c5 := h.c5; have f5 := h.f5; have g5 := h.g5; have e5 := h.e5
  exact ⟨by simp [go_sem, c0], by simp [go_sem, c1], by simp [go_sem, c2], by simp [go_sem, c3], by simp [go_sem, c4], by simp [go_sem, c5], by simp [go_sem, f0], by simp [go_sem, f1], by simp [go_sem, f2], by simp [go_sem, f3], by simp [go_sem, f4], by simp [go_sem, f5], by simp [go_sem, g0], by simp [go_sem, g1], by simp [go_sem, g2], by simp [go_sem, g3], by simp [go_sem, g4], by simp [go_sem, g5], by simp [go_sem, e0], by simp [go_sem, e1], by simp [go_sem, e2], by simp [go_sem, e3], by simp [go_sem, e4], by simp [go_sem, e5],
    h1, h2, by simpa [World.setCell] using h.lc, hnew, h.but.setNew (by dsimp only; omega) _, h.rd.but (C := c) (But.setCell (R := c) (But.refl _ _) (p := ⟨c, 0, none⟩) rfl _) (by omega)⟩
theorem OI.set1 {R d c : Nat} {w wc : World} {k r s t a b p : Int} (h : OI R d c w k r s t a b p wc) (v : Int) : OI R d c w k v s t a b p (wc.setCell ⟨c, 1, none⟩ (.int .i64 v)) := by
  have h1 := h.rd'
  have h2 := h.dc
  have hnew := h.new
  have c0 := h.c0; have f0 := h.f0; have g0 := h.g0; have e0 := h.e0; have c1 := h.c1; have f1 := h.f1; have g1 := h.g1; have e1 := h.e1; have c2 := h.c2; have f2 := h.f2; have g2 := h.g2; have e2 := h.e2; have c3 := h.c3; have f3 := h.f3; have g3 := h.g3; have e3 := h.e3; have c4 := h.c4; have f4 := h.f4; have g4 := h.g4; have e4 := h.e4; have c5 := h.c5; have f5 := h.f5; have g5 := h.g5; have e5 := h.e5
  exact ⟨by simp [go_sem, c0], by simp [go_sem, c1], by simp [go_sem, c2], by simp [go_sem, c3], by simp [go_sem, c4], by simp [go_sem, c5], by simp [go_sem, f0], by simp [go_sem, f1], by simp [go_sem, f2], by simp [go_sem, f3], by simp [go_sem, f4], by simp [go_sem, f5], by simp [go_sem, g0], by simp [go_sem, g1], by simp [go_sem, g2], by simp [go_sem, g3], by simp [go_sem, g4], by simp [go_sem, g5], by simp [go_sem, e0], by simp [go_sem, e1], by simp [go_sem, e2], by simp [go_sem, e3], by simp [go_sem, e4], by simp [go_sem, e5],
    h1, h2, by simpa [World.setCell] using h.lc, hnew, h.but.setNew (by dsimp only; omega) _, h.rd.but (C := c) (But.setCell (R := c) (But.refl _ _) (p := ⟨c, 1, none⟩) rfl _) (by omega)⟩
theorem OI.set2 {R d c : Nat} {w wc : World} {k r s t a b p : Int} (h : OI R d c w k r s t a b p wc) (v : Int) : OI R d c w k r v t a b p (wc.setCell ⟨c, 2, none⟩ (.int .i64 v)) := by
  have h1 := h.rd'
  have h2 := h.dc
  have hnew := h.new
  have c0 := h.c0; have f0 := h.f0; have g0 := h.g0; have e0 := h.e0; have c1 := h.c1; have f1 := h.f1; have g1 := h.g1; have e1 := h.e1; have c2 := h.c2; have f2 := h.f2; have g2 := h.g2; have e2 := h.e2; have c3 := h.c3; have f3 := h.f3; have g3 := h.g3; have e3 := h.e3; have c4 := h.c4; have f4 := h.f4; have g4 := h.g4; have e4 := h.e4; have c5 := h.c5; have f5 := h.f5; have g5 := h.g5; have e5 := h.e5
  exact ⟨by simp [go_sem, c0], by simp [go_sem, c1], by simp [go_sem, c2], by simp [go_sem, c3], by simp [go_sem, c4], by simp [go_sem, c5], by simp [go_sem, f0], by simp [go_sem, f1], by simp [go_sem, f2], by simp [go_sem, f3], by simp [go_sem, f4], by simp [go_sem, f5], by simp [go_sem, g0], by simp [go_sem, g1], by simp [go_sem, g2], by simp [go_sem, g3], by simp [go_sem, g4], by simp [go_sem, g5], by simp [go_sem, e0], by simp [go_sem, e1], by simp [go_sem, e2], by simp [go_sem, e3], by simp [go_sem, e4], by simp [go_sem, e5],
    h1, h2, by simpa [World.setCell] using h.lc, hnew, h.but.setNew (by dsimp only; omega) _, h.rd.but (C := c) (But.setCell (R := c) (But.refl _ _) (p := ⟨c, 2, none⟩) rfl _) (by omega)⟩
theorem OI.set3 {R d c : Nat} {w wc : World} {k r s t a b p : Int} (h : OI R d c w k r s t a b p wc) (v : Int) : OI R d c w k r s v a b p (wc.setCell ⟨c, 3, none⟩ (.int .i64 v)) := by
  have h1 := h.rd'
  have h2 := h.dc
  have hnew := h.new
  have c0 := h.c0; have f0 := h.f0; have g0 := h.g0; have e0 := h.e0; have c1 := h.c1; have f1 := h.f1; have g1 := h.g1; have e1 := h.e1; have c2 := h.c2; have f2 := h.f2; have g2 := h.g2; have e2 := h.e2; have c3 := h.c3; have f3 := h.f3; have g3 := h.g3; have e3 := h.e3; have c4 := h.c4; have f4 := h.f4; have g4 := h.g4; have e4 := h.e4; have c5 := h.c5; have f5 := h.f5; have g5 := h.g5; have e5 := h.e5
  exact ⟨by simp [go_sem, c0], by simp [go_sem, c1], by simp [go_sem, c2], by simp [go_sem, c3], by simp [go_sem, c4], by simp [go_sem, c5], by simp [go_sem, f0], by simp [go_sem, f1], by simp [go_sem, f2], by simp [go_sem, f3], by simp [go_sem, f4], by simp [go_sem, f5], by simp [go_sem, g0], by simp [go_sem, g1], by simp [go_sem, g2], by simp [go_sem, g3], by simp [go_sem, g4], by simp [go_sem, g5], by simp [go_sem, e0], by simp [go_sem, e1], by simp [go_sem, e2], by simp [go_sem, e3], by simp [go_sem, e4], by simp [go_sem, e5],
    h1, h2, by simpa [World.setCell] using h.lc, hnew, h.but.setNew (by dsimp only; omega) _, h.rd.but (C := c) (But.setCell (R := c) (But.refl _ _) (p := ⟨c, 3, none⟩) rfl _) (by omega)⟩
theorem OI.set4 {R d c : Nat} {w wc : World} {k r s t a b p : Int} (h : OI R d c w k r s t a b p wc) (v : Int) : OI R d c w k r s t v b p (wc.setCell ⟨c, 4, none⟩ (.int .i64 v)) := by
  have h1 := h.rd'
  have h2 := h.dc
  have hnew := h.new
  have c0 := h.c0; have f0 := h.f0; have g0 := h.g0; have e0 := h.e0; have c1 := h.c1; have f1 := h.f1; have g1 := h.g1; have e1 := h.e1; have c2 := h.c2; have f2 := h.f2; have g2 := h.g2; have e2 := h.e2; have c3 := h.c3; have f3 := h.f3; have g3 := h.g3; have e3 := h.e3; have c4 := h.c4; have f4 := h.f4; have g4 := h.g4; have e4 := h.e4; have c5 := h.c5; have f5 := h.f5; have g5 := h.g5; have e5 := h.e5
  exact ⟨by simp [go_sem, c0], by simp [go_sem, c1], by simp [go_sem, c2], by simp [go_sem, c3], by simp [go_sem, c4], by simp [go_sem, c5], by simp [go_sem, f0], by simp [go_sem, f1], by simp [go_sem, f2], by simp [go_sem, f3], by simp [go_sem, f4], by simp [go_sem, f5], by simp [go_sem, g0], by simp [go_sem, g1], by simp [go_sem, g2], by simp [go_sem, g3], by simp [go_sem, g4], by simp [go_sem, g5], by simp [go_sem, e0], by simp [go_sem, e1], by simp [go_sem, e2], by simp [go_sem, e3], by simp [go_sem, e4], by simp [go_sem, e5],
    h1, h2, by simpa [World.setCell] using h.lc, hnew, h.but.setNew (by dsimp only; omega) _, h.rd.but (C := c) (But.setCell (R := c) (But.refl _ _) (p := ⟨c, 4, none⟩) rfl _) (by omega)⟩
theorem OI.set5 {R d c : Nat} {w wc : World} {k r s t a b p : Int} (h : OI R d c w k r s t a b p wc) (v : Int) : OI R d c w k r s t a v p (wc.setCell ⟨c, 5, none⟩ (.int .i64 v)) := by
  have h1 := h.rd'
  have h2 := h.dc
  have hnew := h.new
  have c0 := h.c0; have f0 := h.f0; have g0 := h.g0; have e0 := h.e0; have c1 := h.c1; have f1 := h.f1; have g1 := h.g1; have e1 := h.e1; have c2 := h.c2; have f2 := h.f2; have g2 := h.g2; have e2 := h.e2; have c3 := h.c3; have f3 := h.f3; have g3 := h.g3; have e3 := h.e3; have c4 := h.c4; have f4 := h.f4; have g4 := h.g4; have e4 := h.e4; have c5 := h.c5; have f5 := h.f5; have g5 := h.g5; have e5 := h.e5
  exact ⟨by simp [go_sem, c0], by simp [go_sem, c1], by simp [go_sem, c2], by simp [go_sem, c3], by simp [go_sem, c4], by simp [go_sem, c5], by simp [go_sem, f0], by simp [go_sem, f1], by simp [go_sem, f2], by simp [go_sem, f3], by simp [go_sem, f4], by simp [go_sem, f5], by simp [go_sem, g0], by simp [go_sem, g1], by simp [go_sem, g2], by simp [go_sem, g3], by simp [go_sem, g4], by simp [go_sem, g5], by simp [go_sem, e0], by simp [go_sem, e1], by simp [go_sem, e2], by simp [go_sem, e3], by simp [go_sem, e4], by simp [go_sem, e5],
    h1, h2, by simpa [World.setCell] using h.lc, hnew, h.but.setNew (by dsimp only; omega) _, h.rd.but (C := c) (But.setCell (R := c) (But.refl _ _) (p := ⟨c, 5, none⟩) rfl _) (by omega)⟩
set_option maxHeartbeats 2000000 in
/-- a drawn value that is ok -/
theorem good_any (R : Nat) (p : Int) (w : World) (h : Rd R p w) (hp : p ≤ 900000) :
    Calls Tryz.prog 101 #[.pointer (some ⟨R, 0, none⟩)] w fun e w' => ∃ k n p', e = .returned (.agg #[.int .i64 k, .int .i64 n]) ∧ (-100 ≤ k ∧ k ≤ 100 ∧ -100 ≤ n ∧ n ≤ 100) ∧ But R w w' ∧ (p ≤ p' ∧ p' ≤ p + 5) ∧ Rd R p' w' := by
  have hlt := h.lt
  go_enter Tryz.func101, Tryz.ntmps101
  go_wp2_with fail
  refine (val_any R p _ (h.below ((Below.refl _ _).alloc (Nat.le_refl _) _)) (by omega)).mono ?_
  rintro e w1 ⟨k, n, p', rfl, hkn, hb1, hp', hR1⟩
  have hz1 := hb1.size
  simp at hz1
  obtain ⟨hc1, hf1⟩ := butcell hb1
  have q0 : w1.cell? ⟨w.heap.size, 0, none⟩ = some (.int .i64 0) := by rw [hc1 _ _ (by simp) (by omega)]; simp [go_sem]
  have q1 : w1.cell? ⟨w.heap.size, 1, none⟩ = some (.int .i64 0) := by rw [hc1 _ _ (by simp) (by omega)]; simp [go_sem]
  have u0 : w1.frozen? ⟨w.heap.size, 0, none⟩ = false := by rw [hf1 _ _ (by simp) (by omega)]; simp [go_sem]
  have u1 : w1.frozen? ⟨w.heap.size, 1, none⟩ = false := by rw [hf1 _ _ (by simp) (by omega)]; simp [go_sem]
  go_wp2_with fail
  refine (specOk_any _ _ _).mono ?_
  rintro e w2 ⟨rfl, hb2⟩
  have hz2 := hb2.size
  simp at hz2
  have hb : But R w w2 := ((((But.refl _ _).alloc _).trans hb1).alloc _).trans (But.of_below hb2)
  have hR2 : Rd R p' w2 := (hR1.below ((Below.refl _ _).alloc (Nat.le_refl _) _)).below hb2
  obtain ⟨hc2, hf2⟩ := bcell hb2
  have y0 : w2.cell? ⟨w.heap.size, 0, none⟩ = some (.int .i64 0) := by rw [hc2 _ _ (by simp; omega), World.cell?_alloc_past _ _ _ (by omega)]; exact q0
  have y1 : w2.cell? ⟨w.heap.size, 1, none⟩ = some (.int .i64 0) := by rw [hc2 _ _ (by simp; omega), World.cell?_alloc_past _ _ _ (by omega)]; exact q1
  have z0 : w2.frozen? ⟨w.heap.size, 0, none⟩ = false := by rw [hf2 _ _ (by simp; omega), ((Below.refl w1.heap.size w1).alloc (Nat.le_refl _) _).frozen (p := ⟨w.heap.size, 0, none⟩) (by dsimp only; omega)]; exact u0
  have z1 : w2.frozen? ⟨w.heap.size, 1, none⟩ = false := by rw [hf2 _ _ (by simp; omega), ((Below.refl w1.heap.size w1).alloc (Nat.le_refl _) _).frozen (p := ⟨w.heap.size, 1, none⟩) (by dsimp only; omega)]; exact u1
  have x0 : w2.cell? ⟨w1.heap.size, 0, none⟩ = some (.int .i64 k) := by rw [hc2 _ _ (by simp)]; simp [go_sem]
  have x1 : w2.cell? ⟨w1.heap.size, 1, none⟩ = some (.int .i64 n) := by rw [hc2 _ _ (by simp)]; simp [go_sem]
  have l0 : w1.heap.size < w2.heap.size := by omega
  clear hc2 hf2 hc1 hf1 hb1 hb2 q0 q1 u0 u1
  cases hok : okB k n with
  | false =>
    go_wp2_with fail
    exact bodyPost_ret (v := .agg #[.int .i64 1, .int .i64 1]) (by simp [results, Tryz.results101, go_sem, y0, y1]) rfl
      ⟨1, 1, p', rfl, by omega, (hb.setNew (by dsimp only; omega) _).setNew (by dsimp only; omega) _, hp', hR2.but (C := w.heap.size) ((But.setCell (R := w.heap.size) (But.refl _ _) (p := ⟨w.heap.size, 0, none⟩) rfl _).setCell (p := ⟨w.heap.size, 1, none⟩) rfl _) (by omega)⟩
  | true =>
    go_wp2_with fail
    exact bodyPost_ret (v := .agg #[.int .i64 k, .int .i64 n]) (by simp [results, Tryz.results101, go_sem, y0, y1]) rfl
      ⟨k, n, p', rfl, by omega, (hb.setNew (by dsimp only; omega) _).setNew (by dsimp only; omega) _, hp', hR2.but (C := w.heap.size) ((But.setCell (R := w.heap.size) (But.refl _ _) (p := ⟨w.heap.size, 0, none⟩) rfl _).setCell (p := ⟨w.heap.size, 1, none⟩) rfl _) (by omega)⟩
theorem pats {k : Int} (h1 : 1 ≤ k) (h2 : k ≤ 14) : (fR k = true ∧ fS k = false ∧ fT k = false ∧ fV k = true ∧ (k == 8) = false ∧ (k == 13) = false) ∨ (fR k = true ∧ fS k = true ∧ fT k = false ∧ fV k = false ∧ (k == 8) = false ∧ (k == 13) = false) ∨ (fR k = true ∧ fS k = false ∧ fT k = false ∧ fV k = false ∧ (k == 8) = false ∧ (k == 13) = false) ∨ (fR k = true ∧ fS k = false ∧ fT k = true ∧ fV k = false ∧ (k == 8) = false ∧ (k == 13) = false) ∨ (fR k = true ∧ fS k = true ∧ fT k = true ∧ fV k = true ∧ (k == 8) = true ∧ (k == 13) = false) ∨ (fR k = false ∧ fS k = false ∧ fT k = true ∧ fV k = false ∧ (k == 8) = false ∧ (k == 13) = false) ∨ (fR k = true ∧ fS k = false ∧ fT k = true ∧ fV k = true ∧ (k == 8) = false ∧ (k == 13) = false) ∨ (fR k = false ∧ fS k = false ∧ fT k = false ∧ fV k = true ∧ (k == 8) = false ∧ (k == 13) = true) := by
  rcases kinds14 h1 h2 with rfl | rfl | rfl | rfl | rfl | rfl | rfl | rfl | rfl | rfl | rfl | rfl | rfl | rfl <;> decide
set_option maxHeartbeats 4000000 in
theorem op_any (R : Nat) (p m : Int) (w : World) (h : Rd R p w) (hp : p ≤ 800000) (hm1 : 1 ≤ m) (hm2 : m ≤ 100) :
    Calls Tryz.prog 61 #[.pointer (some ⟨R, 0, none⟩), .int .i64 m] w fun e w' => ∃ k r s t a b p', e = .returned (.agg #[.int .i64 k, .int .i64 r, .int .i64 s, .int .i64 t, .int .i64 a, .int .i64 b]) ∧ But R w w' ∧ (p ≤ p' ∧ p' ≤ p + 20) ∧ Rd R p' w' := by
  have hlt := h.lt
  have hp0 := h.p0
  go_enter Tryz.func61, Tryz.ntmps61
  go_wp2_with fail
  refine (pick_any R p 14 _ (h.below ((Below.refl _ _).alloc (Nat.le_refl _) _)) (by omega) (by omega) (by omega)).mono ?_
  rintro e w1 ⟨k0, rfl, hk0, hb1, hR1⟩
  obtain ⟨hc1, hf1⟩ := butcell hb1
  have hz1 := hb1.size
  simp at hz1
  have hO : OI R w.heap.size w1.heap.size w (1 + k0) 0 0 0 0 0 (p + 1) (w1.alloc (.cells #[.int .i64 (1 + k0), .int .i64 0, .int .i64 0, .int .i64 0, .int .i64 0, .int .i64 0] 43)) :=
    ⟨by simp [go_sem], by simp [go_sem], by simp [go_sem], by simp [go_sem], by simp [go_sem], by simp [go_sem], by simp [go_sem], by simp [go_sem], by simp [go_sem], by simp [go_sem], by simp [go_sem], by simp [go_sem],
     by rw [World.cell?_alloc_past _ _ _ (by omega), hc1 _ _ (by simp) (by omega)]; simp [go_sem], by rw [World.cell?_alloc_past _ _ _ (by omega), hc1 _ _ (by simp) (by omega)]; simp [go_sem], by rw [World.cell?_alloc_past _ _ _ (by omega), hc1 _ _ (by simp) (by omega)]; simp [go_sem], by rw [World.cell?_alloc_past _ _ _ (by omega), hc1 _ _ (by simp) (by omega)]; simp [go_sem], by rw [World.cell?_alloc_past _ _ _ (by omega), hc1 _ _ (by simp) (by omega)]; simp [go_sem], by rw [World.cell?_alloc_past _ _ _ (by omega), hc1 _ _ (by simp) (by omega)]; simp [go_sem],
     by rw [((Below.refl w1.heap.size w1).alloc (Nat.le_refl _) _).frozen (p := ⟨w.heap.size, 0, none⟩) (by dsimp only; omega), hf1 _ _ (by simp) (by omega)]; simp [go_sem], by rw [((Below.refl w1.heap.size w1).alloc (Nat.le_refl _) _).frozen (p := ⟨w.heap.size, 1, none⟩) (by dsimp only; omega), hf1 _ _ (by simp) (by omega)]; simp [go_sem], by rw [((Below.refl w1.heap.size w1).alloc (Nat.le_refl _) _).frozen (p := ⟨w.heap.size, 2, none⟩) (by dsimp only; omega), hf1 _ _ (by simp) (by omega)]; simp [go_sem], by rw [((Below.refl w1.heap.size w1).alloc (Nat.le_refl _) _).frozen (p := ⟨w.heap.size, 3, none⟩) (by dsimp only; omega), hf1 _ _ (by simp) (by omega)]; simp [go_sem], by rw [((Below.refl w1.heap.size w1).alloc (Nat.le_refl _) _).frozen (p := ⟨w.heap.size, 4, none⟩) (by dsimp only; omega), hf1 _ _ (by simp) (by omega)]; simp [go_sem], by rw [((Below.refl w1.heap.size w1).alloc (Nat.le_refl _) _).frozen (p := ⟨w.heap.size, 5, none⟩) (by dsimp only; omega), hf1 _ _ (by simp) (by omega)]; simp [go_sem],
     hlt, by omega, by simp, Nat.le_refl _, (((But.refl _ _).alloc _).trans hb1).alloc _, hR1.below ((Below.refl _ _).alloc (Nat.le_refl _) _)⟩
  clear hc1 hf1 hb1 hR1
  go_wp2_with fail
  refine (form_any _ _ (by omega) (by omega)).mono ?_
  rintro e w2 ⟨rfl, rfl⟩
  have hO := hO.alloc (formO (1 + k0))
  generalize hW0 : w1.alloc (.cells #[.int .i64 (1 + k0), .int .i64 0, .int .i64 0, .int .i64 0, .int .i64 0, .int .i64 0] 43) = W1 at *
  have hfb : W1.heap.size = w1.heap.size + 1 := by rw [← hW0]; simp
  have d0 : (W1.alloc (formO (1 + k0))).cell? ⟨w1.heap.size + 1, 0, none⟩ = some (.bool (fR (1 + k0))) := by rw [← hfb]; simp [go_sem]
  have d1 : (W1.alloc (formO (1 + k0))).cell? ⟨w1.heap.size + 1, 1, none⟩ = some (.bool (fS (1 + k0))) := by rw [← hfb]; simp [go_sem]
  have d2 : (W1.alloc (formO (1 + k0))).cell? ⟨w1.heap.size + 1, 2, none⟩ = some (.bool (fT (1 + k0))) := by rw [← hfb]; simp [go_sem]
  have d3 : (W1.alloc (formO (1 + k0))).cell? ⟨w1.heap.size + 1, 3, none⟩ = some (.bool (fV (1 + k0))) := by rw [← hfb]; simp [go_sem]
  have lW : w1.heap.size + 1 < (W1.alloc (formO (1 + k0))).heap.size := by rw [← hfb]; simp
  generalize (W1.alloc (formO (1 + k0))) = W2 at *
  generalize w1.heap.size = c at *
  have lc := hO.lc; have ldc := hO.dc
  have hne : c + 1 ≠ c := by omega
  have hne2 : c ≠ c + 1 := by omega
  have hne3 : c ≠ w.heap.size := by omega
  have hne4 : c + 1 ≠ w.heap.size := by omega
  have hne5 : w.heap.size ≠ c := by omega
  rcases pats (k := 1 + k0) (by omega) (by omega) with ⟨hfR, hfS, hfT, hfV, h8, h13⟩ | ⟨hfR, hfS, hfT, hfV, h8, h13⟩ | ⟨hfR, hfS, hfT, hfV, h8, h13⟩ | ⟨hfR, hfS, hfT, hfV, h8, h13⟩ | ⟨hfR, hfS, hfT, hfV, h8, h13⟩ | ⟨hfR, hfS, hfT, hfV, h8, h13⟩ | ⟨hfR, hfS, hfT, hfV, h8, h13⟩ | ⟨hfR, hfS, hfT, hfV, h8, h13⟩
  · go_wp2_with fail
    refine (pick_any R (p + 1) 4 _ hO.rd (by omega) (by omega) (by omega)).mono ?_
    rintro e w2 ⟨r2, rfl, hr2, hb2, hR2⟩
    have hO2 := hO.go hb2 hR2
    have c0 := hO2.c0; have f0 := hO2.f0; have g0 := hO2.g0; have e0 := hO2.e0
    have c1 := hO2.c1; have f1 := hO2.f1; have g1 := hO2.g1; have e1 := hO2.e1
    have c2 := hO2.c2; have f2 := hO2.f2; have g2 := hO2.g2; have e2 := hO2.e2
    have c3 := hO2.c3; have f3 := hO2.f3; have g3 := hO2.g3; have e3 := hO2.e3
    have c4 := hO2.c4; have f4 := hO2.f4; have g4 := hO2.g4; have e4 := hO2.e4
    have c5 := hO2.c5; have f5 := hO2.f5; have g5 := hO2.g5; have e5 := hO2.e5
    have d02 : w2.cell? ⟨c + 1, 0, none⟩ = some (.bool (fR (1 + k0))) := by rw [hb2.cell (p := ⟨c + 1, 0, none⟩) (by (try simp) <;> omega) (by dsimp only; omega)]; simp [go_sem, d0]
    have d12 : w2.cell? ⟨c + 1, 1, none⟩ = some (.bool (fS (1 + k0))) := by rw [hb2.cell (p := ⟨c + 1, 1, none⟩) (by (try simp) <;> omega) (by dsimp only; omega)]; simp [go_sem, d1]
    have d22 : w2.cell? ⟨c + 1, 2, none⟩ = some (.bool (fT (1 + k0))) := by rw [hb2.cell (p := ⟨c + 1, 2, none⟩) (by (try simp) <;> omega) (by dsimp only; omega)]; simp [go_sem, d2]
    have d32 : w2.cell? ⟨c + 1, 3, none⟩ = some (.bool (fV (1 + k0))) := by rw [hb2.cell (p := ⟨c + 1, 3, none⟩) (by (try simp) <;> omega) (by dsimp only; omega)]; simp [go_sem, d3]
    have ls2 := hb2.size
    try simp at ls2
    clear hb2 hR2 d0 d1 d2 d3
    go_wp2_with fail
    refine (good_any R ((p + 1) + 1) _ (hO2.set1 r2).rd (by omega)).mono ?_
    rintro e w3 ⟨r3, q3, p3, rfl, hr3, hb3, hp3, hR3⟩
    have hO3 := (hO2.set1 r2).go hb3 hR3
    clear c0 f0 g0 e0 c1 f1 g1 e1 c2 f2 g2 e2 c3 f3 g3 e3 c4 f4 g4 e4 c5 f5 g5 e5
    have c0 := hO3.c0; have f0 := hO3.f0; have g0 := hO3.g0; have e0 := hO3.e0
    have c1 := hO3.c1; have f1 := hO3.f1; have g1 := hO3.g1; have e1 := hO3.e1
    have c2 := hO3.c2; have f2 := hO3.f2; have g2 := hO3.g2; have e2 := hO3.e2
    have c3 := hO3.c3; have f3 := hO3.f3; have g3 := hO3.g3; have e3 := hO3.e3
    have c4 := hO3.c4; have f4 := hO3.f4; have g4 := hO3.g4; have e4 := hO3.e4
    have c5 := hO3.c5; have f5 := hO3.f5; have g5 := hO3.g5; have e5 := hO3.e5
    have d03 : w3.cell? ⟨c + 1, 0, none⟩ = some (.bool (fR (1 + k0))) := by rw [hb3.cell (p := ⟨c + 1, 0, none⟩) (by (try simp) <;> omega) (by dsimp only; omega)]; simp [go_sem, d02]
    have d13 : w3.cell? ⟨c + 1, 1, none⟩ = some (.bool (fS (1 + k0))) := by rw [hb3.cell (p := ⟨c + 1, 1, none⟩) (by (try simp) <;> omega) (by dsimp only; omega)]; simp [go_sem, d12]
    have d23 : w3.cell? ⟨c + 1, 2, none⟩ = some (.bool (fT (1 + k0))) := by rw [hb3.cell (p := ⟨c + 1, 2, none⟩) (by (try simp) <;> omega) (by dsimp only; omega)]; simp [go_sem, d22]
    have d33 : w3.cell? ⟨c + 1, 3, none⟩ = some (.bool (fV (1 + k0))) := by rw [hb3.cell (p := ⟨c + 1, 3, none⟩) (by (try simp) <;> omega) (by dsimp only; omega)]; simp [go_sem, d32]
    have ls3 := hb3.size
    try simp at ls3
    clear hb3 hR3 d02 d12 d22 d32
    have hF := ((hO3.set4 r3).set5 q3)
    go_wp2_with fail
    exact bodyPost_ret (v := .agg #[.int .i64 (1 + k0), .int .i64 r2, .int .i64 0, .int .i64 0, .int .i64 r3, .int .i64 q3]) (by simp [results, Tryz.results61, go_sem, g0, g1, g2, g3, g4, g5]) rfl
      ⟨(1 + k0), r2, 0, 0, r3, q3, p3, rfl, ((((((hF.but.setNew (by dsimp only; omega) _).setNew (by dsimp only; omega) _).setNew (by dsimp only; omega) _).setNew (by dsimp only; omega) _).setNew (by dsimp only; omega) _).setNew (by dsimp only; omega) _), by omega, hF.rd.but (C := w.heap.size) (But.setCell (R := w.heap.size) (But.setCell (R := w.heap.size) (But.setCell (R := w.heap.size) (But.setCell (R := w.heap.size) (But.setCell (R := w.heap.size) (But.setCell (R := w.heap.size) (But.refl _ _) (p := ⟨w.heap.size, 0, none⟩) rfl _) (p := ⟨w.heap.size, 1, none⟩) rfl _) (p := ⟨w.heap.size, 2, none⟩) rfl _) (p := ⟨w.heap.size, 3, none⟩) rfl _) (p := ⟨w.heap.size, 4, none⟩) rfl _) (p := ⟨w.heap.size, 5, none⟩) rfl _) (by omega)⟩
  · go_wp2_with fail
    refine (pick_any R (p + 1) 4 _ hO.rd (by omega) (by omega) (by omega)).mono ?_
    rintro e w2 ⟨r2, rfl, hr2, hb2, hR2⟩
    have hO2 := hO.go hb2 hR2
    have c0 := hO2.c0; have f0 := hO2.f0; have g0 := hO2.g0; have e0 := hO2.e0
    have c1 := hO2.c1; have f1 := hO2.f1; have g1 := hO2.g1; have e1 := hO2.e1
    have c2 := hO2.c2; have f2 := hO2.f2; have g2 := hO2.g2; have e2 := hO2.e2
    have c3 := hO2.c3; have f3 := hO2.f3; have g3 := hO2.g3; have e3 := hO2.e3
    have c4 := hO2.c4; have f4 := hO2.f4; have g4 := hO2.g4; have e4 := hO2.e4
    have c5 := hO2.c5; have f5 := hO2.f5; have g5 := hO2.g5; have e5 := hO2.e5
    have d02 : w2.cell? ⟨c + 1, 0, none⟩ = some (.bool (fR (1 + k0))) := by rw [hb2.cell (p := ⟨c + 1, 0, none⟩) (by (try simp) <;> omega) (by dsimp only; omega)]; simp [go_sem, d0]
    have d12 : w2.cell? ⟨c + 1, 1, none⟩ = some (.bool (fS (1 + k0))) := by rw [hb2.cell (p := ⟨c + 1, 1, none⟩) (by (try simp) <;> omega) (by dsimp only; omega)]; simp [go_sem, d1]
    have d22 : w2.cell? ⟨c + 1, 2, none⟩ = some (.bool (fT (1 + k0))) := by rw [hb2.cell (p := ⟨c + 1, 2, none⟩) (by (try simp) <;> omega) (by dsimp only; omega)]; simp [go_sem, d2]
    have d32 : w2.cell? ⟨c + 1, 3, none⟩ = some (.bool (fV (1 + k0))) := by rw [hb2.cell (p := ⟨c + 1, 3, none⟩) (by (try simp) <;> omega) (by dsimp only; omega)]; simp [go_sem, d3]
    have ls2 := hb2.size
    try simp at ls2
    clear hb2 hR2 d0 d1 d2 d3
    go_wp2_with fail
    refine (pick_any R ((p + 1) + 1) 4 _ (hO2.set1 r2).rd (by omega) (by omega) (by omega)).mono ?_
    rintro e w3 ⟨r3, rfl, hr3, hb3, hR3⟩
    have hO3 := (hO2.set1 r2).go hb3 hR3
    clear c0 f0 g0 e0 c1 f1 g1 e1 c2 f2 g2 e2 c3 f3 g3 e3 c4 f4 g4 e4 c5 f5 g5 e5
    have c0 := hO3.c0; have f0 := hO3.f0; have g0 := hO3.g0; have e0 := hO3.e0
    have c1 := hO3.c1; have f1 := hO3.f1; have g1 := hO3.g1; have e1 := hO3.e1
    have c2 := hO3.c2; have f2 := hO3.f2; have g2 := hO3.g2; have e2 := hO3.e2
    have c3 := hO3.c3; have f3 := hO3.f3; have g3 := hO3.g3; have e3 := hO3.e3
    have c4 := hO3.c4; have f4 := hO3.f4; have g4 := hO3.g4; have e4 := hO3.e4
    have c5 := hO3.c5; have f5 := hO3.f5; have g5 := hO3.g5; have e5 := hO3.e5
    have d03 : w3.cell? ⟨c + 1, 0, none⟩ = some (.bool (fR (1 + k0))) := by rw [hb3.cell (p := ⟨c + 1, 0, none⟩) (by (try simp) <;> omega) (by dsimp only; omega)]; simp [go_sem, d02]
    have d13 : w3.cell? ⟨c + 1, 1, none⟩ = some (.bool (fS (1 + k0))) := by rw [hb3.cell (p := ⟨c + 1, 1, none⟩) (by (try simp) <;> omega) (by dsimp only; omega)]; simp [go_sem, d12]
    have d23 : w3.cell? ⟨c + 1, 2, none⟩ = some (.bool (fT (1 + k0))) := by rw [hb3.cell (p := ⟨c + 1, 2, none⟩) (by (try simp) <;> omega) (by dsimp only; omega)]; simp [go_sem, d22]
    have d33 : w3.cell? ⟨c + 1, 3, none⟩ = some (.bool (fV (1 + k0))) := by rw [hb3.cell (p := ⟨c + 1, 3, none⟩) (by (try simp) <;> omega) (by dsimp only; omega)]; simp [go_sem, d32]
    have ls3 := hb3.size
    try simp at ls3
    clear hb3 hR3 d02 d12 d22 d32
    have hF := (hO3.set2 r3)
    go_wp2_with fail
    exact bodyPost_ret (v := .agg #[.int .i64 (1 + k0), .int .i64 r2, .int .i64 r3, .int .i64 0, .int .i64 0, .int .i64 0]) (by simp [results, Tryz.results61, go_sem, g0, g1, g2, g3, g4, g5]) rfl
      ⟨(1 + k0), r2, r3, 0, 0, 0, (((p + 1) + 1) + 1), rfl, ((((((hF.but.setNew (by dsimp only; omega) _).setNew (by dsimp only; omega) _).setNew (by dsimp only; omega) _).setNew (by dsimp only; omega) _).setNew (by dsimp only; omega) _).setNew (by dsimp only; omega) _), by omega, hF.rd.but (C := w.heap.size) (But.setCell (R := w.heap.size) (But.setCell (R := w.heap.size) (But.setCell (R := w.heap.size) (But.setCell (R := w.heap.size) (But.setCell (R := w.heap.size) (But.setCell (R := w.heap.size) (But.refl _ _) (p := ⟨w.heap.size, 0, none⟩) rfl _) (p := ⟨w.heap.size, 1, none⟩) rfl _) (p := ⟨w.heap.size, 2, none⟩) rfl _) (p := ⟨w.heap.size, 3, none⟩) rfl _) (p := ⟨w.heap.size, 4, none⟩) rfl _) (p := ⟨w.heap.size, 5, none⟩) rfl _) (by omega)⟩
  · go_wp2_with fail
    refine (pick_any R (p + 1) 4 _ hO.rd (by omega) (by omega) (by omega)).mono ?_
    rintro e w2 ⟨r2, rfl, hr2, hb2, hR2⟩
    have hO2 := hO.go hb2 hR2
    have c0 := hO2.c0; have f0 := hO2.f0; have g0 := hO2.g0; have e0 := hO2.e0
    have c1 := hO2.c1; have f1 := hO2.f1; have g1 := hO2.g1; have e1 := hO2.e1
    have c2 := hO2.c2; have f2 := hO2.f2; have g2 := hO2.g2; have e2 := hO2.e2
    have c3 := hO2.c3; have f3 := hO2.f3; have g3 := hO2.g3; have e3 := hO2.e3
    have c4 := hO2.c4; have f4 := hO2.f4; have g4 := hO2.g4; have e4 := hO2.e4
    have c5 := hO2.c5; have f5 := hO2.f5; have g5 := hO2.g5; have e5 := hO2.e5
    have d02 : w2.cell? ⟨c + 1, 0, none⟩ = some (.bool (fR (1 + k0))) := by rw [hb2.cell (p := ⟨c + 1, 0, none⟩) (by (try simp) <;> omega) (by dsimp only; omega)]; simp [go_sem, d0]
    have d12 : w2.cell? ⟨c + 1, 1, none⟩ = some (.bool (fS (1 + k0))) := by rw [hb2.cell (p := ⟨c + 1, 1, none⟩) (by (try simp) <;> omega) (by dsimp only; omega)]; simp [go_sem, d1]
    have d22 : w2.cell? ⟨c + 1, 2, none⟩ = some (.bool (fT (1 + k0))) := by rw [hb2.cell (p := ⟨c + 1, 2, none⟩) (by (try simp) <;> omega) (by dsimp only; omega)]; simp [go_sem, d2]
    have d32 : w2.cell? ⟨c + 1, 3, none⟩ = some (.bool (fV (1 + k0))) := by rw [hb2.cell (p := ⟨c + 1, 3, none⟩) (by (try simp) <;> omega) (by dsimp only; omega)]; simp [go_sem, d3]
    have ls2 := hb2.size
    try simp at ls2
    clear hb2 hR2 d0 d1 d2 d3
    have hF := (hO2.set1 r2)
    go_wp2_with fail
    exact bodyPost_ret (v := .agg #[.int .i64 (1 + k0), .int .i64 r2, .int .i64 0, .int .i64 0, .int .i64 0, .int .i64 0]) (by simp [results, Tryz.results61, go_sem, g0, g1, g2, g3, g4, g5]) rfl
      ⟨(1 + k0), r2, 0, 0, 0, 0, ((p + 1) + 1), rfl, ((((((hF.but.setNew (by dsimp only; omega) _).setNew (by dsimp only; omega) _).setNew (by dsimp only; omega) _).setNew (by dsimp only; omega) _).setNew (by dsimp only; omega) _).setNew (by dsimp only; omega) _), by omega, hF.rd.but (C := w.heap.size) (But.setCell (R := w.heap.size) (But.setCell (R := w.heap.size) (But.setCell (R := w.heap.size) (But.setCell (R := w.heap.size) (But.setCell (R := w.heap.size) (But.setCell (R := w.heap.size) (But.refl _ _) (p := ⟨w.heap.size, 0, none⟩) rfl _) (p := ⟨w.heap.size, 1, none⟩) rfl _) (p := ⟨w.heap.size, 2, none⟩) rfl _) (p := ⟨w.heap.size, 3, none⟩) rfl _) (p := ⟨w.heap.size, 4, none⟩) rfl _) (p := ⟨w.heap.size, 5, none⟩) rfl _) (by omega)⟩
  · go_wp2_with fail
    refine (pick_any R (p + 1) 4 _ hO.rd (by omega) (by omega) (by omega)).mono ?_
    rintro e w2 ⟨r2, rfl, hr2, hb2, hR2⟩
    have hO2 := hO.go hb2 hR2
    have c0 := hO2.c0; have f0 := hO2.f0; have g0 := hO2.g0; have e0 := hO2.e0
    have c1 := hO2.c1; have f1 := hO2.f1; have g1 := hO2.g1; have e1 := hO2.e1
    have c2 := hO2.c2; have f2 := hO2.f2; have g2 := hO2.g2; have e2 := hO2.e2
    have c3 := hO2.c3; have f3 := hO2.f3; have g3 := hO2.g3; have e3 := hO2.e3
    have c4 := hO2.c4; have f4 := hO2.f4; have g4 := hO2.g4; have e4 := hO2.e4
    have c5 := hO2.c5; have f5 := hO2.f5; have g5 := hO2.g5; have e5 := hO2.e5
    have d02 : w2.cell? ⟨c + 1, 0, none⟩ = some (.bool (fR (1 + k0))) := by rw [hb2.cell (p := ⟨c + 1, 0, none⟩) (by (try simp) <;> omega) (by dsimp only; omega)]; simp [go_sem, d0]
    have d12 : w2.cell? ⟨c + 1, 1, none⟩ = some (.bool (fS (1 + k0))) := by rw [hb2.cell (p := ⟨c + 1, 1, none⟩) (by (try simp) <;> omega) (by dsimp only; omega)]; simp [go_sem, d1]
    have d22 : w2.cell? ⟨c + 1, 2, none⟩ = some (.bool (fT (1 + k0))) := by rw [hb2.cell (p := ⟨c + 1, 2, none⟩) (by (try simp) <;> omega) (by dsimp only; omega)]; simp [go_sem, d2]
    have d32 : w2.cell? ⟨c + 1, 3, none⟩ = some (.bool (fV (1 + k0))) := by rw [hb2.cell (p := ⟨c + 1, 3, none⟩) (by (try simp) <;> omega) (by dsimp only; omega)]; simp [go_sem, d3]
    have ls2 := hb2.size
    try simp at ls2
    clear hb2 hR2 d0 d1 d2 d3
    go_wp2_with fail
    refine (pick_any R ((p + 1) + 1) m _ (hO2.set1 r2).rd (by omega) (by omega) (by omega)).mono ?_
    rintro e w3 ⟨r3, rfl, hr3, hb3, hR3⟩
    have hO3 := (hO2.set1 r2).go hb3 hR3
    clear c0 f0 g0 e0 c1 f1 g1 e1 c2 f2 g2 e2 c3 f3 g3 e3 c4 f4 g4 e4 c5 f5 g5 e5
    have c0 := hO3.c0; have f0 := hO3.f0; have g0 := hO3.g0; have e0 := hO3.e0
    have c1 := hO3.c1; have f1 := hO3.f1; have g1 := hO3.g1; have e1 := hO3.e1
    have c2 := hO3.c2; have f2 := hO3.f2; have g2 := hO3.g2; have e2 := hO3.e2
    have c3 := hO3.c3; have f3 := hO3.f3; have g3 := hO3.g3; have e3 := hO3.e3
    have c4 := hO3.c4; have f4 := hO3.f4; have g4 := hO3.g4; have e4 := hO3.e4
    have c5 := hO3.c5; have f5 := hO3.f5; have g5 := hO3.g5; have e5 := hO3.e5
    have d03 : w3.cell? ⟨c + 1, 0, none⟩ = some (.bool (fR (1 + k0))) := by rw [hb3.cell (p := ⟨c + 1, 0, none⟩) (by (try simp) <;> omega) (by dsimp only; omega)]; simp [go_sem, d02]
    have d13 : w3.cell? ⟨c + 1, 1, none⟩ = some (.bool (fS (1 + k0))) := by rw [hb3.cell (p := ⟨c + 1, 1, none⟩) (by (try simp) <;> omega) (by dsimp only; omega)]; simp [go_sem, d12]
    have d23 : w3.cell? ⟨c + 1, 2, none⟩ = some (.bool (fT (1 + k0))) := by rw [hb3.cell (p := ⟨c + 1, 2, none⟩) (by (try simp) <;> omega) (by dsimp only; omega)]; simp [go_sem, d22]
    have d33 : w3.cell? ⟨c + 1, 3, none⟩ = some (.bool (fV (1 + k0))) := by rw [hb3.cell (p := ⟨c + 1, 3, none⟩) (by (try simp) <;> omega) (by dsimp only; omega)]; simp [go_sem, d32]
    have ls3 := hb3.size
    try simp at ls3
    clear hb3 hR3 d02 d12 d22 d32
    have hF := (hO3.set3 r3)
    go_wp2_with fail
    exact bodyPost_ret (v := .agg #[.int .i64 (1 + k0), .int .i64 r2, .int .i64 0, .int .i64 r3, .int .i64 0, .int .i64 0]) (by simp [results, Tryz.results61, go_sem, g0, g1, g2, g3, g4, g5]) rfl
      ⟨(1 + k0), r2, 0, r3, 0, 0, (((p + 1) + 1) + 1), rfl, ((((((hF.but.setNew (by dsimp only; omega) _).setNew (by dsimp only; omega) _).setNew (by dsimp only; omega) _).setNew (by dsimp only; omega) _).setNew (by dsimp only; omega) _).setNew (by dsimp only; omega) _), by omega, hF.rd.but (C := w.heap.size) (But.setCell (R := w.heap.size) (But.setCell (R := w.heap.size) (But.setCell (R := w.heap.size) (But.setCell (R := w.heap.size) (But.setCell (R := w.heap.size) (But.setCell (R := w.heap.size) (But.refl _ _) (p := ⟨w.heap.size, 0, none⟩) rfl _) (p := ⟨w.heap.size, 1, none⟩) rfl _) (p := ⟨w.heap.size, 2, none⟩) rfl _) (p := ⟨w.heap.size, 3, none⟩) rfl _) (p := ⟨w.heap.size, 4, none⟩) rfl _) (p := ⟨w.heap.size, 5, none⟩) rfl _) (by omega)⟩
  · go_wp2_with fail
    refine (pick_any R (p + 1) 4 _ hO.rd (by omega) (by omega) (by omega)).mono ?_
    rintro e w2 ⟨r2, rfl, hr2, hb2, hR2⟩
    have hO2 := hO.go hb2 hR2
    have c0 := hO2.c0; have f0 := hO2.f0; have g0 := hO2.g0; have e0 := hO2.e0
    have c1 := hO2.c1; have f1 := hO2.f1; have g1 := hO2.g1; have e1 := hO2.e1
    have c2 := hO2.c2; have f2 := hO2.f2; have g2 := hO2.g2; have e2 := hO2.e2
    have c3 := hO2.c3; have f3 := hO2.f3; have g3 := hO2.g3; have e3 := hO2.e3
    have c4 := hO2.c4; have f4 := hO2.f4; have g4 := hO2.g4; have e4 := hO2.e4
    have c5 := hO2.c5; have f5 := hO2.f5; have g5 := hO2.g5; have e5 := hO2.e5
    have d02 : w2.cell? ⟨c + 1, 0, none⟩ = some (.bool (fR (1 + k0))) := by rw [hb2.cell (p := ⟨c + 1, 0, none⟩) (by (try simp) <;> omega) (by dsimp only; omega)]; simp [go_sem, d0]
    have d12 : w2.cell? ⟨c + 1, 1, none⟩ = some (.bool (fS (1 + k0))) := by rw [hb2.cell (p := ⟨c + 1, 1, none⟩) (by (try simp) <;> omega) (by dsimp only; omega)]; simp [go_sem, d1]
    have d22 : w2.cell? ⟨c + 1, 2, none⟩ = some (.bool (fT (1 + k0))) := by rw [hb2.cell (p := ⟨c + 1, 2, none⟩) (by (try simp) <;> omega) (by dsimp only; omega)]; simp [go_sem, d2]
    have d32 : w2.cell? ⟨c + 1, 3, none⟩ = some (.bool (fV (1 + k0))) := by rw [hb2.cell (p := ⟨c + 1, 3, none⟩) (by (try simp) <;> omega) (by dsimp only; omega)]; simp [go_sem, d3]
    have ls2 := hb2.size
    try simp at ls2
    clear hb2 hR2 d0 d1 d2 d3
    go_wp2_with fail
    refine (pick_any R ((p + 1) + 1) 4 _ (hO2.set1 r2).rd (by omega) (by omega) (by omega)).mono ?_
    rintro e w3 ⟨r3, rfl, hr3, hb3, hR3⟩
    have hO3 := (hO2.set1 r2).go hb3 hR3
    clear c0 f0 g0 e0 c1 f1 g1 e1 c2 f2 g2 e2 c3 f3 g3 e3 c4 f4 g4 e4 c5 f5 g5 e5
    have c0 := hO3.c0; have f0 := hO3.f0; have g0 := hO3.g0; have e0 := hO3.e0
    have c1 := hO3.c1; have f1 := hO3.f1; have g1 := hO3.g1; have e1 := hO3.e1
    have c2 := hO3.c2; have f2 := hO3.f2; have g2 := hO3.g2; have e2 := hO3.e2
    have c3 := hO3.c3; have f3 := hO3.f3; have g3 := hO3.g3; have e3 := hO3.e3
    have c4 := hO3.c4; have f4 := hO3.f4; have g4 := hO3.g4; have e4 := hO3.e4
    have c5 := hO3.c5; have f5 := hO3.f5; have g5 := hO3.g5; have e5 := hO3.e5
    have d03 : w3.cell? ⟨c + 1, 0, none⟩ = some (.bool (fR (1 + k0))) := by rw [hb3.cell (p := ⟨c + 1, 0, none⟩) (by (try simp) <;> omega) (by dsimp only; omega)]; simp [go_sem, d02]
    have d13 : w3.cell? ⟨c + 1, 1, none⟩ = some (.bool (fS (1 + k0))) := by rw [hb3.cell (p := ⟨c + 1, 1, none⟩) (by (try simp) <;> omega) (by dsimp only; omega)]; simp [go_sem, d12]
    have d23 : w3.cell? ⟨c + 1, 2, none⟩ = some (.bool (fT (1 + k0))) := by rw [hb3.cell (p := ⟨c + 1, 2, none⟩) (by (try simp) <;> omega) (by dsimp only; omega)]; simp [go_sem, d22]
    have d33 : w3.cell? ⟨c + 1, 3, none⟩ = some (.bool (fV (1 + k0))) := by rw [hb3.cell (p := ⟨c + 1, 3, none⟩) (by (try simp) <;> omega) (by dsimp only; omega)]; simp [go_sem, d32]
    have ls3 := hb3.size
    try simp at ls3
    clear hb3 hR3 d02 d12 d22 d32
    go_wp2_with fail
    refine (pick_any R (((p + 1) + 1) + 1) m _ (hO3.set2 r3).rd (by omega) (by omega) (by omega)).mono ?_
    rintro e w4 ⟨r4, rfl, hr4, hb4, hR4⟩
    have hO4 := (hO3.set2 r3).go hb4 hR4
    clear c0 f0 g0 e0 c1 f1 g1 e1 c2 f2 g2 e2 c3 f3 g3 e3 c4 f4 g4 e4 c5 f5 g5 e5
    have c0 := hO4.c0; have f0 := hO4.f0; have g0 := hO4.g0; have e0 := hO4.e0
    have c1 := hO4.c1; have f1 := hO4.f1; have g1 := hO4.g1; have e1 := hO4.e1
    have c2 := hO4.c2; have f2 := hO4.f2; have g2 := hO4.g2; have e2 := hO4.e2
    have c3 := hO4.c3; have f3 := hO4.f3; have g3 := hO4.g3; have e3 := hO4.e3
    have c4 := hO4.c4; have f4 := hO4.f4; have g4 := hO4.g4; have e4 := hO4.e4
    have c5 := hO4.c5; have f5 := hO4.f5; have g5 := hO4.g5; have e5 := hO4.e5
    have d04 : w4.cell? ⟨c + 1, 0, none⟩ = some (.bool (fR (1 + k0))) := by rw [hb4.cell (p := ⟨c + 1, 0, none⟩) (by (try simp) <;> omega) (by dsimp only; omega)]; simp [go_sem, d03]
    have d14 : w4.cell? ⟨c + 1, 1, none⟩ = some (.bool (fS (1 + k0))) := by rw [hb4.cell (p := ⟨c + 1, 1, none⟩) (by (try simp) <;> omega) (by dsimp only; omega)]; simp [go_sem, d13]
    have d24 : w4.cell? ⟨c + 1, 2, none⟩ = some (.bool (fT (1 + k0))) := by rw [hb4.cell (p := ⟨c + 1, 2, none⟩) (by (try simp) <;> omega) (by dsimp only; omega)]; simp [go_sem, d23]
    have d34 : w4.cell? ⟨c + 1, 3, none⟩ = some (.bool (fV (1 + k0))) := by rw [hb4.cell (p := ⟨c + 1, 3, none⟩) (by (try simp) <;> omega) (by dsimp only; omega)]; simp [go_sem, d33]
    have ls4 := hb4.size
    try simp at ls4
    clear hb4 hR4 d03 d13 d23 d33
    go_wp2_with fail
    refine (good_any R ((((p + 1) + 1) + 1) + 1) _ (hO4.set3 r4).rd (by omega)).mono ?_
    rintro e w5 ⟨r5, q5, p5, rfl, hr5, hb5, hp5, hR5⟩
    have hO5 := (hO4.set3 r4).go hb5 hR5
    clear c0 f0 g0 e0 c1 f1 g1 e1 c2 f2 g2 e2 c3 f3 g3 e3 c4 f4 g4 e4 c5 f5 g5 e5
    have c0 := hO5.c0; have f0 := hO5.f0; have g0 := hO5.g0; have e0 := hO5.e0
    have c1 := hO5.c1; have f1 := hO5.f1; have g1 := hO5.g1; have e1 := hO5.e1
    have c2 := hO5.c2; have f2 := hO5.f2; have g2 := hO5.g2; have e2 := hO5.e2
    have c3 := hO5.c3; have f3 := hO5.f3; have g3 := hO5.g3; have e3 := hO5.e3
    have c4 := hO5.c4; have f4 := hO5.f4; have g4 := hO5.g4; have e4 := hO5.e4
    have c5 := hO5.c5; have f5 := hO5.f5; have g5 := hO5.g5; have e5 := hO5.e5
    have d05 : w5.cell? ⟨c + 1, 0, none⟩ = some (.bool (fR (1 + k0))) := by rw [hb5.cell (p := ⟨c + 1, 0, none⟩) (by (try simp) <;> omega) (by dsimp only; omega)]; simp [go_sem, d04]
    have d15 : w5.cell? ⟨c + 1, 1, none⟩ = some (.bool (fS (1 + k0))) := by rw [hb5.cell (p := ⟨c + 1, 1, none⟩) (by (try simp) <;> omega) (by dsimp only; omega)]; simp [go_sem, d14]
    have d25 : w5.cell? ⟨c + 1, 2, none⟩ = some (.bool (fT (1 + k0))) := by rw [hb5.cell (p := ⟨c + 1, 2, none⟩) (by (try simp) <;> omega) (by dsimp only; omega)]; simp [go_sem, d24]
    have d35 : w5.cell? ⟨c + 1, 3, none⟩ = some (.bool (fV (1 + k0))) := by rw [hb5.cell (p := ⟨c + 1, 3, none⟩) (by (try simp) <;> omega) (by dsimp only; omega)]; simp [go_sem, d34]
    have ls5 := hb5.size
    try simp at ls5
    clear hb5 hR5 d04 d14 d24 d34
    go_wp2_with fail
    refine (pick_any R p5 3 _ ((hO5.set4 r5).set5 q5).rd (by omega) (by omega) (by omega)).mono ?_
    rintro e w6 ⟨r6, rfl, hr6, hb6, hR6⟩
    have hO6 := ((hO5.set4 r5).set5 q5).go hb6 hR6
    clear c0 f0 g0 e0 c1 f1 g1 e1 c2 f2 g2 e2 c3 f3 g3 e3 c4 f4 g4 e4 c5 f5 g5 e5
    have c0 := hO6.c0; have f0 := hO6.f0; have g0 := hO6.g0; have e0 := hO6.e0
    have c1 := hO6.c1; have f1 := hO6.f1; have g1 := hO6.g1; have e1 := hO6.e1
    have c2 := hO6.c2; have f2 := hO6.f2; have g2 := hO6.g2; have e2 := hO6.e2
    have c3 := hO6.c3; have f3 := hO6.f3; have g3 := hO6.g3; have e3 := hO6.e3
    have c4 := hO6.c4; have f4 := hO6.f4; have g4 := hO6.g4; have e4 := hO6.e4
    have c5 := hO6.c5; have f5 := hO6.f5; have g5 := hO6.g5; have e5 := hO6.e5
    have d06 : w6.cell? ⟨c + 1, 0, none⟩ = some (.bool (fR (1 + k0))) := by rw [hb6.cell (p := ⟨c + 1, 0, none⟩) (by (try simp) <;> omega) (by dsimp only; omega)]; simp [go_sem, d05]
    have d16 : w6.cell? ⟨c + 1, 1, none⟩ = some (.bool (fS (1 + k0))) := by rw [hb6.cell (p := ⟨c + 1, 1, none⟩) (by (try simp) <;> omega) (by dsimp only; omega)]; simp [go_sem, d15]
    have d26 : w6.cell? ⟨c + 1, 2, none⟩ = some (.bool (fT (1 + k0))) := by rw [hb6.cell (p := ⟨c + 1, 2, none⟩) (by (try simp) <;> omega) (by dsimp only; omega)]; simp [go_sem, d25]
    have d36 : w6.cell? ⟨c + 1, 3, none⟩ = some (.bool (fV (1 + k0))) := by rw [hb6.cell (p := ⟨c + 1, 3, none⟩) (by (try simp) <;> omega) (by dsimp only; omega)]; simp [go_sem, d35]
    have ls6 := hb6.size
    try simp at ls6
    clear hb6 hR6 d05 d15 d25 d35
    have hF := ((hO6.set4 1).set5 (1 + r6))
    go_wp2_with fail
    exact bodyPost_ret (v := .agg #[.int .i64 (1 + k0), .int .i64 r2, .int .i64 r3, .int .i64 r4, .int .i64 1, .int .i64 (1 + r6)]) (by simp [results, Tryz.results61, go_sem, g0, g1, g2, g3, g4, g5]) rfl
      ⟨(1 + k0), r2, r3, r4, 1, (1 + r6), (p5 + 1), rfl, ((((((hF.but.setNew (by dsimp only; omega) _).setNew (by dsimp only; omega) _).setNew (by dsimp only; omega) _).setNew (by dsimp only; omega) _).setNew (by dsimp only; omega) _).setNew (by dsimp only; omega) _), by omega, hF.rd.but (C := w.heap.size) (But.setCell (R := w.heap.size) (But.setCell (R := w.heap.size) (But.setCell (R := w.heap.size) (But.setCell (R := w.heap.size) (But.setCell (R := w.heap.size) (But.setCell (R := w.heap.size) (But.refl _ _) (p := ⟨w.heap.size, 0, none⟩) rfl _) (p := ⟨w.heap.size, 1, none⟩) rfl _) (p := ⟨w.heap.size, 2, none⟩) rfl _) (p := ⟨w.heap.size, 3, none⟩) rfl _) (p := ⟨w.heap.size, 4, none⟩) rfl _) (p := ⟨w.heap.size, 5, none⟩) rfl _) (by omega)⟩
  · go_wp2_with fail
    refine (pick_any R (p + 1) m _ hO.rd (by omega) (by omega) (by omega)).mono ?_
    rintro e w2 ⟨r2, rfl, hr2, hb2, hR2⟩
    have hO2 := hO.go hb2 hR2
    have c0 := hO2.c0; have f0 := hO2.f0; have g0 := hO2.g0; have e0 := hO2.e0
    have c1 := hO2.c1; have f1 := hO2.f1; have g1 := hO2.g1; have e1 := hO2.e1
    have c2 := hO2.c2; have f2 := hO2.f2; have g2 := hO2.g2; have e2 := hO2.e2
    have c3 := hO2.c3; have f3 := hO2.f3; have g3 := hO2.g3; have e3 := hO2.e3
    have c4 := hO2.c4; have f4 := hO2.f4; have g4 := hO2.g4; have e4 := hO2.e4
    have c5 := hO2.c5; have f5 := hO2.f5; have g5 := hO2.g5; have e5 := hO2.e5
    have d02 : w2.cell? ⟨c + 1, 0, none⟩ = some (.bool (fR (1 + k0))) := by rw [hb2.cell (p := ⟨c + 1, 0, none⟩) (by (try simp) <;> omega) (by dsimp only; omega)]; simp [go_sem, d0]
    have d12 : w2.cell? ⟨c + 1, 1, none⟩ = some (.bool (fS (1 + k0))) := by rw [hb2.cell (p := ⟨c + 1, 1, none⟩) (by (try simp) <;> omega) (by dsimp only; omega)]; simp [go_sem, d1]
    have d22 : w2.cell? ⟨c + 1, 2, none⟩ = some (.bool (fT (1 + k0))) := by rw [hb2.cell (p := ⟨c + 1, 2, none⟩) (by (try simp) <;> omega) (by dsimp only; omega)]; simp [go_sem, d2]
    have d32 : w2.cell? ⟨c + 1, 3, none⟩ = some (.bool (fV (1 + k0))) := by rw [hb2.cell (p := ⟨c + 1, 3, none⟩) (by (try simp) <;> omega) (by dsimp only; omega)]; simp [go_sem, d3]
    have ls2 := hb2.size
    try simp at ls2
    clear hb2 hR2 d0 d1 d2 d3
    have hF := (hO2.set3 r2)
    go_wp2_with fail
    exact bodyPost_ret (v := .agg #[.int .i64 (1 + k0), .int .i64 0, .int .i64 0, .int .i64 r2, .int .i64 0, .int .i64 0]) (by simp [results, Tryz.results61, go_sem, g0, g1, g2, g3, g4, g5]) rfl
      ⟨(1 + k0), 0, 0, r2, 0, 0, ((p + 1) + 1), rfl, ((((((hF.but.setNew (by dsimp only; omega) _).setNew (by dsimp only; omega) _).setNew (by dsimp only; omega) _).setNew (by dsimp only; omega) _).setNew (by dsimp only; omega) _).setNew (by dsimp only; omega) _), by omega, hF.rd.but (C := w.heap.size) (But.setCell (R := w.heap.size) (But.setCell (R := w.heap.size) (But.setCell (R := w.heap.size) (But.setCell (R := w.heap.size) (But.setCell (R := w.heap.size) (But.setCell (R := w.heap.size) (But.refl _ _) (p := ⟨w.heap.size, 0, none⟩) rfl _) (p := ⟨w.heap.size, 1, none⟩) rfl _) (p := ⟨w.heap.size, 2, none⟩) rfl _) (p := ⟨w.heap.size, 3, none⟩) rfl _) (p := ⟨w.heap.size, 4, none⟩) rfl _) (p := ⟨w.heap.size, 5, none⟩) rfl _) (by omega)⟩
  · go_wp2_with fail
    refine (pick_any R (p + 1) 4 _ hO.rd (by omega) (by omega) (by omega)).mono ?_
    rintro e w2 ⟨r2, rfl, hr2, hb2, hR2⟩
    have hO2 := hO.go hb2 hR2
    have c0 := hO2.c0; have f0 := hO2.f0; have g0 := hO2.g0; have e0 := hO2.e0
    have c1 := hO2.c1; have f1 := hO2.f1; have g1 := hO2.g1; have e1 := hO2.e1
    have c2 := hO2.c2; have f2 := hO2.f2; have g2 := hO2.g2; have e2 := hO2.e2
    have c3 := hO2.c3; have f3 := hO2.f3; have g3 := hO2.g3; have e3 := hO2.e3
    have c4 := hO2.c4; have f4 := hO2.f4; have g4 := hO2.g4; have e4 := hO2.e4
    have c5 := hO2.c5; have f5 := hO2.f5; have g5 := hO2.g5; have e5 := hO2.e5
    have d02 : w2.cell? ⟨c + 1, 0, none⟩ = some (.bool (fR (1 + k0))) := by rw [hb2.cell (p := ⟨c + 1, 0, none⟩) (by (try simp) <;> omega) (by dsimp only; omega)]; simp [go_sem, d0]
    have d12 : w2.cell? ⟨c + 1, 1, none⟩ = some (.bool (fS (1 + k0))) := by rw [hb2.cell (p := ⟨c + 1, 1, none⟩) (by (try simp) <;> omega) (by dsimp only; omega)]; simp [go_sem, d1]
    have d22 : w2.cell? ⟨c + 1, 2, none⟩ = some (.bool (fT (1 + k0))) := by rw [hb2.cell (p := ⟨c + 1, 2, none⟩) (by (try simp) <;> omega) (by dsimp only; omega)]; simp [go_sem, d2]
    have d32 : w2.cell? ⟨c + 1, 3, none⟩ = some (.bool (fV (1 + k0))) := by rw [hb2.cell (p := ⟨c + 1, 3, none⟩) (by (try simp) <;> omega) (by dsimp only; omega)]; simp [go_sem, d3]
    have ls2 := hb2.size
    try simp at ls2
    clear hb2 hR2 d0 d1 d2 d3
    go_wp2_with fail
    refine (pick_any R ((p + 1) + 1) m _ (hO2.set1 r2).rd (by omega) (by omega) (by omega)).mono ?_
    rintro e w3 ⟨r3, rfl, hr3, hb3, hR3⟩
    have hO3 := (hO2.set1 r2).go hb3 hR3
    clear c0 f0 g0 e0 c1 f1 g1 e1 c2 f2 g2 e2 c3 f3 g3 e3 c4 f4 g4 e4 c5 f5 g5 e5
    have c0 := hO3.c0; have f0 := hO3.f0; have g0 := hO3.g0; have e0 := hO3.e0
    have c1 := hO3.c1; have f1 := hO3.f1; have g1 := hO3.g1; have e1 := hO3.e1
    have c2 := hO3.c2; have f2 := hO3.f2; have g2 := hO3.g2; have e2 := hO3.e2
    have c3 := hO3.c3; have f3 := hO3.f3; have g3 := hO3.g3; have e3 := hO3.e3
    have c4 := hO3.c4; have f4 := hO3.f4; have g4 := hO3.g4; have e4 := hO3.e4
    have c5 := hO3.c5; have f5 := hO3.f5; have g5 := hO3.g5; have e5 := hO3.e5
    have d03 : w3.cell? ⟨c + 1, 0, none⟩ = some (.bool (fR (1 + k0))) := by rw [hb3.cell (p := ⟨c + 1, 0, none⟩) (by (try simp) <;> omega) (by dsimp only; omega)]; simp [go_sem, d02]
    have d13 : w3.cell? ⟨c + 1, 1, none⟩ = some (.bool (fS (1 + k0))) := by rw [hb3.cell (p := ⟨c + 1, 1, none⟩) (by (try simp) <;> omega) (by dsimp only; omega)]; simp [go_sem, d12]
    have d23 : w3.cell? ⟨c + 1, 2, none⟩ = some (.bool (fT (1 + k0))) := by rw [hb3.cell (p := ⟨c + 1, 2, none⟩) (by (try simp) <;> omega) (by dsimp only; omega)]; simp [go_sem, d22]
    have d33 : w3.cell? ⟨c + 1, 3, none⟩ = some (.bool (fV (1 + k0))) := by rw [hb3.cell (p := ⟨c + 1, 3, none⟩) (by (try simp) <;> omega) (by dsimp only; omega)]; simp [go_sem, d32]
    have ls3 := hb3.size
    try simp at ls3
    clear hb3 hR3 d02 d12 d22 d32
    go_wp2_with fail
    refine (good_any R (((p + 1) + 1) + 1) _ (hO3.set3 r3).rd (by omega)).mono ?_
    rintro e w4 ⟨r4, q4, p4, rfl, hr4, hb4, hp4, hR4⟩
    have hO4 := (hO3.set3 r3).go hb4 hR4
    clear c0 f0 g0 e0 c1 f1 g1 e1 c2 f2 g2 e2 c3 f3 g3 e3 c4 f4 g4 e4 c5 f5 g5 e5
    have c0 := hO4.c0; have f0 := hO4.f0; have g0 := hO4.g0; have e0 := hO4.e0
    have c1 := hO4.c1; have f1 := hO4.f1; have g1 := hO4.g1; have e1 := hO4.e1
    have c2 := hO4.c2; have f2 := hO4.f2; have g2 := hO4.g2; have e2 := hO4.e2
    have c3 := hO4.c3; have f3 := hO4.f3; have g3 := hO4.g3; have e3 := hO4.e3
    have c4 := hO4.c4; have f4 := hO4.f4; have g4 := hO4.g4; have e4 := hO4.e4
    have c5 := hO4.c5; have f5 := hO4.f5; have g5 := hO4.g5; have e5 := hO4.e5
    have d04 : w4.cell? ⟨c + 1, 0, none⟩ = some (.bool (fR (1 + k0))) := by rw [hb4.cell (p := ⟨c + 1, 0, none⟩) (by (try simp) <;> omega) (by dsimp only; omega)]; simp [go_sem, d03]
    have d14 : w4.cell? ⟨c + 1, 1, none⟩ = some (.bool (fS (1 + k0))) := by rw [hb4.cell (p := ⟨c + 1, 1, none⟩) (by (try simp) <;> omega) (by dsimp only; omega)]; simp [go_sem, d13]
    have d24 : w4.cell? ⟨c + 1, 2, none⟩ = some (.bool (fT (1 + k0))) := by rw [hb4.cell (p := ⟨c + 1, 2, none⟩) (by (try simp) <;> omega) (by dsimp only; omega)]; simp [go_sem, d23]
    have d34 : w4.cell? ⟨c + 1, 3, none⟩ = some (.bool (fV (1 + k0))) := by rw [hb4.cell (p := ⟨c + 1, 3, none⟩) (by (try simp) <;> omega) (by dsimp only; omega)]; simp [go_sem, d33]
    have ls4 := hb4.size
    try simp at ls4
    clear hb4 hR4 d03 d13 d23 d33
    have hF := ((hO4.set4 r4).set5 q4)
    go_wp2_with fail
    exact bodyPost_ret (v := .agg #[.int .i64 (1 + k0), .int .i64 r2, .int .i64 0, .int .i64 r3, .int .i64 r4, .int .i64 q4]) (by simp [results, Tryz.results61, go_sem, g0, g1, g2, g3, g4, g5]) rfl
      ⟨(1 + k0), r2, 0, r3, r4, q4, p4, rfl, ((((((hF.but.setNew (by dsimp only; omega) _).setNew (by dsimp only; omega) _).setNew (by dsimp only; omega) _).setNew (by dsimp only; omega) _).setNew (by dsimp only; omega) _).setNew (by dsimp only; omega) _), by omega, hF.rd.but (C := w.heap.size) (But.setCell (R := w.heap.size) (But.setCell (R := w.heap.size) (But.setCell (R := w.heap.size) (But.setCell (R := w.heap.size) (But.setCell (R := w.heap.size) (But.setCell (R := w.heap.size) (But.refl _ _) (p := ⟨w.heap.size, 0, none⟩) rfl _) (p := ⟨w.heap.size, 1, none⟩) rfl _) (p := ⟨w.heap.size, 2, none⟩) rfl _) (p := ⟨w.heap.size, 3, none⟩) rfl _) (p := ⟨w.heap.size, 4, none⟩) rfl _) (p := ⟨w.heap.size, 5, none⟩) rfl _) (by omega)⟩
  · go_wp2_with fail
    refine (good_any R (p + 1) _ hO.rd (by omega)).mono ?_
    rintro e w2 ⟨r2, q2, p2, rfl, hr2, hb2, hp2, hR2⟩
    have hO2 := hO.go hb2 hR2
    have c0 := hO2.c0; have f0 := hO2.f0; have g0 := hO2.g0; have e0 := hO2.e0
    have c1 := hO2.c1; have f1 := hO2.f1; have g1 := hO2.g1; have e1 := hO2.e1
    have c2 := hO2.c2; have f2 := hO2.f2; have g2 := hO2.g2; have e2 := hO2.e2
    have c3 := hO2.c3; have f3 := hO2.f3; have g3 := hO2.g3; have e3 := hO2.e3
    have c4 := hO2.c4; have f4 := hO2.f4; have g4 := hO2.g4; have e4 := hO2.e4
    have c5 := hO2.c5; have f5 := hO2.f5; have g5 := hO2.g5; have e5 := hO2.e5
    have d02 : w2.cell? ⟨c + 1, 0, none⟩ = some (.bool (fR (1 + k0))) := by rw [hb2.cell (p := ⟨c + 1, 0, none⟩) (by (try simp) <;> omega) (by dsimp only; omega)]; simp [go_sem, d0]
    have d12 : w2.cell? ⟨c + 1, 1, none⟩ = some (.bool (fS (1 + k0))) := by rw [hb2.cell (p := ⟨c + 1, 1, none⟩) (by (try simp) <;> omega) (by dsimp only; omega)]; simp [go_sem, d1]
    have d22 : w2.cell? ⟨c + 1, 2, none⟩ = some (.bool (fT (1 + k0))) := by rw [hb2.cell (p := ⟨c + 1, 2, none⟩) (by (try simp) <;> omega) (by dsimp only; omega)]; simp [go_sem, d2]
    have d32 : w2.cell? ⟨c + 1, 3, none⟩ = some (.bool (fV (1 + k0))) := by rw [hb2.cell (p := ⟨c + 1, 3, none⟩) (by (try simp) <;> omega) (by dsimp only; omega)]; simp [go_sem, d3]
    have ls2 := hb2.size
    try simp at ls2
    clear hb2 hR2 d0 d1 d2 d3
    go_wp2_with fail
    refine (pick_any R p2 2 _ ((hO2.set4 r2).set5 q2).rd (by omega) (by omega) (by omega)).mono ?_
    rintro e w3 ⟨r3, rfl, hr3, hb3, hR3⟩
    have hO3 := ((hO2.set4 r2).set5 q2).go hb3 hR3
    clear c0 f0 g0 e0 c1 f1 g1 e1 c2 f2 g2 e2 c3 f3 g3 e3 c4 f4 g4 e4 c5 f5 g5 e5
    have c0 := hO3.c0; have f0 := hO3.f0; have g0 := hO3.g0; have e0 := hO3.e0
    have c1 := hO3.c1; have f1 := hO3.f1; have g1 := hO3.g1; have e1 := hO3.e1
    have c2 := hO3.c2; have f2 := hO3.f2; have g2 := hO3.g2; have e2 := hO3.e2
    have c3 := hO3.c3; have f3 := hO3.f3; have g3 := hO3.g3; have e3 := hO3.e3
    have c4 := hO3.c4; have f4 := hO3.f4; have g4 := hO3.g4; have e4 := hO3.e4
    have c5 := hO3.c5; have f5 := hO3.f5; have g5 := hO3.g5; have e5 := hO3.e5
    have d03 : w3.cell? ⟨c + 1, 0, none⟩ = some (.bool (fR (1 + k0))) := by rw [hb3.cell (p := ⟨c + 1, 0, none⟩) (by (try simp) <;> omega) (by dsimp only; omega)]; simp [go_sem, d02]
    have d13 : w3.cell? ⟨c + 1, 1, none⟩ = some (.bool (fS (1 + k0))) := by rw [hb3.cell (p := ⟨c + 1, 1, none⟩) (by (try simp) <;> omega) (by dsimp only; omega)]; simp [go_sem, d12]
    have d23 : w3.cell? ⟨c + 1, 2, none⟩ = some (.bool (fT (1 + k0))) := by rw [hb3.cell (p := ⟨c + 1, 2, none⟩) (by (try simp) <;> omega) (by dsimp only; omega)]; simp [go_sem, d22]
    have d33 : w3.cell? ⟨c + 1, 3, none⟩ = some (.bool (fV (1 + k0))) := by rw [hb3.cell (p := ⟨c + 1, 3, none⟩) (by (try simp) <;> omega) (by dsimp only; omega)]; simp [go_sem, d32]
    have ls3 := hb3.size
    try simp at ls3
    clear hb3 hR3 d02 d12 d22 d32
    have hF := ((hO3.set4 1).set5 r3)
    go_wp2_with fail
    exact bodyPost_ret (v := .agg #[.int .i64 (1 + k0), .int .i64 0, .int .i64 0, .int .i64 0, .int .i64 1, .int .i64 r3]) (by simp [results, Tryz.results61, go_sem, g0, g1, g2, g3, g4, g5]) rfl
      ⟨(1 + k0), 0, 0, 0, 1, r3, (p2 + 1), rfl, ((((((hF.but.setNew (by dsimp only; omega) _).setNew (by dsimp only; omega) _).setNew (by dsimp only; omega) _).setNew (by dsimp only; omega) _).setNew (by dsimp only; omega) _).setNew (by dsimp only; omega) _), by omega, hF.rd.but (C := w.heap.size) (But.setCell (R := w.heap.size) (But.setCell (R := w.heap.size) (But.setCell (R := w.heap.size) (But.setCell (R := w.heap.size) (But.setCell (R := w.heap.size) (But.setCell (R := w.heap.size) (But.refl _ _) (p := ⟨w.heap.size, 0, none⟩) rfl _) (p := ⟨w.heap.size, 1, none⟩) rfl _) (p := ⟨w.heap.size, 2, none⟩) rfl _) (p := ⟨w.heap.size, 3, none⟩) rfl _) (p := ⟨w.heap.size, 4, none⟩) rfl _) (p := ⟨w.heap.size, 5, none⟩) rfl _) (by omega)⟩
end Go.Proofs.YtekmjgkjpdhedaaGreatDoor
namespace Go.Proofs.YtekmjgkjpdhedaaGreatDoor
open Go.ChangeShapes Go.WideShapes Go.ChangeAt Go.RowKit Go.Joins
attribute [local go_sem ↓] Go.wp_at_zero Go.wp_at_succ
set_option maxHeartbeats 4000000 in
theorem anyOp_any (R : Nat) (p : Int) (w : World) (h : Rd R p w) (hp : p ≤ 700000) :
    Calls Tryz.prog 46 #[.pointer (some ⟨R, 0, none⟩)] w fun e w' => ∃ k r s t a b p', e = .returned (.agg #[.int .i64 k, .int .i64 r, .int .i64 s, .int .i64 t, .int .i64 a, .int .i64 b]) ∧ But R w w' ∧ (p ≤ p' ∧ p' ≤ p + 40) ∧ Rd R p' w' := by
  have hlt := h.lt
  have hp0 := h.p0
  go_enter Tryz.func46, Tryz.ntmps46
  go_wp2_with fail
  refine (op_any R p 16 _ (h.below ((Below.refl _ _).alloc (Nat.le_refl _) _)) (by omega) (by omega) (by omega)).mono ?_
  rintro e w1 ⟨k, r, s, t, a, b, p1, rfl, hb1, hp1, hR1⟩
  obtain ⟨hc1, hf1⟩ := butcell hb1
  have hz1 := hb1.size
  simp at hz1
  have hO : OI R w.heap.size w1.heap.size w k r s t a b p1 (w1.alloc (.cells #[.int .i64 k, .int .i64 r, .int .i64 s, .int .i64 t, .int .i64 a, .int .i64 b] 43)) :=
    ⟨by simp [go_sem], by simp [go_sem], by simp [go_sem], by simp [go_sem], by simp [go_sem], by simp [go_sem], by simp [go_sem], by simp [go_sem], by simp [go_sem], by simp [go_sem], by simp [go_sem], by simp [go_sem],
     by rw [World.cell?_alloc_past _ _ _ (by omega), hc1 _ _ (by simp) (by omega)]; simp [go_sem], by rw [World.cell?_alloc_past _ _ _ (by omega), hc1 _ _ (by simp) (by omega)]; simp [go_sem], by rw [World.cell?_alloc_past _ _ _ (by omega), hc1 _ _ (by simp) (by omega)]; simp [go_sem], by rw [World.cell?_alloc_past _ _ _ (by omega), hc1 _ _ (by simp) (by omega)]; simp [go_sem], by rw [World.cell?_alloc_past _ _ _ (by omega), hc1 _ _ (by simp) (by omega)]; simp [go_sem], by rw [World.cell?_alloc_past _ _ _ (by omega), hc1 _ _ (by simp) (by omega)]; simp [go_sem],
     by rw [((Below.refl w1.heap.size w1).alloc (Nat.le_refl _) _).frozen (p := ⟨w.heap.size, 0, none⟩) (by dsimp only; omega), hf1 _ _ (by simp) (by omega)]; simp [go_sem], by rw [((Below.refl w1.heap.size w1).alloc (Nat.le_refl _) _).frozen (p := ⟨w.heap.size, 1, none⟩) (by dsimp only; omega), hf1 _ _ (by simp) (by omega)]; simp [go_sem], by rw [((Below.refl w1.heap.size w1).alloc (Nat.le_refl _) _).frozen (p := ⟨w.heap.size, 2, none⟩) (by dsimp only; omega), hf1 _ _ (by simp) (by omega)]; simp [go_sem], by rw [((Below.refl w1.heap.size w1).alloc (Nat.le_refl _) _).frozen (p := ⟨w.heap.size, 3, none⟩) (by dsimp only; omega), hf1 _ _ (by simp) (by omega)]; simp [go_sem], by rw [((Below.refl w1.heap.size w1).alloc (Nat.le_refl _) _).frozen (p := ⟨w.heap.size, 4, none⟩) (by dsimp only; omega), hf1 _ _ (by simp) (by omega)]; simp [go_sem], by rw [((Below.refl w1.heap.size w1).alloc (Nat.le_refl _) _).frozen (p := ⟨w.heap.size, 5, none⟩) (by dsimp only; omega), hf1 _ _ (by simp) (by omega)]; simp [go_sem],
     hlt, by omega, by simp, Nat.le_refl _, (((But.refl _ _).alloc _).trans hb1).alloc _, hR1.below ((Below.refl _ _).alloc (Nat.le_refl _) _)⟩
  clear hc1 hf1 hb1 hR1
  go_wp2_with fail
  generalize (w1.alloc (.cells #[.int .i64 k, .int .i64 r, .int .i64 s, .int .i64 t, .int .i64 a, .int .i64 b] 43)) = W1 at *
  generalize w1.heap.size = c at *
  have ldc := hO.dc
  have hne3 : c ≠ w.heap.size := by omega
  have hne5 : w.heap.size ≠ c := by omega
  refine (pick_any R p1 20 _ hO.rd (by omega) (by omega) (by omega)).mono ?_
  rintro e w2 ⟨x, rfl, hx, hb2, hR2⟩
  have hO2 := hO.go hb2 hR2
  clear hb2 hR2 hO
  by_cases x0 : x = 0
  · subst x0
    go_wp2_with fail
    refine (pick_any R (p1 + 1) 17 _ hO2.rd (by omega) (by omega) (by omega)).mono ?_
    rintro e w3 ⟨y, rfl, hy, hb3, hR3⟩
    have hO3 := hO2.go hb3 hR3
    clear hb3 hR3 hO2
    have c0 := hO3.c0; have f0 := hO3.f0; have g0 := hO3.g0; have e0 := hO3.e0
    have c1 := hO3.c1; have f1 := hO3.f1; have g1 := hO3.g1; have e1 := hO3.e1
    have c2 := hO3.c2; have f2 := hO3.f2; have g2 := hO3.g2; have e2 := hO3.e2
    have c3 := hO3.c3; have f3 := hO3.f3; have g3 := hO3.g3; have e3 := hO3.e3
    have c4 := hO3.c4; have f4 := hO3.f4; have g4 := hO3.g4; have e4 := hO3.e4
    have c5 := hO3.c5; have f5 := hO3.f5; have g5 := hO3.g5; have e5 := hO3.e5
    have hF := hO3.set0 y
    go_wp2_with fail
    exact bodyPost_ret (v := .agg #[.int .i64 y, .int .i64 r, .int .i64 s, .int .i64 t, .int .i64 a, .int .i64 b]) (by simp [results, Tryz.results46, go_sem, g0, g1, g2, g3, g4, g5]) rfl
      ⟨y, r, s, t, a, b, (p1 + 1 + 1), rfl, ((((((hF.but.setNew (by dsimp only; omega) _).setNew (by dsimp only; omega) _).setNew (by dsimp only; omega) _).setNew (by dsimp only; omega) _).setNew (by dsimp only; omega) _).setNew (by dsimp only; omega) _), by omega, hF.rd.but (C := w.heap.size) (But.setCell (R := w.heap.size) (But.setCell (R := w.heap.size) (But.setCell (R := w.heap.size) (But.setCell (R := w.heap.size) (But.setCell (R := w.heap.size) (But.setCell (R := w.heap.size) (But.refl _ _) (p := ⟨w.heap.size, 0, none⟩) rfl _) (p := ⟨w.heap.size, 1, none⟩) rfl _) (p := ⟨w.heap.size, 2, none⟩) rfl _) (p := ⟨w.heap.size, 3, none⟩) rfl _) (p := ⟨w.heap.size, 4, none⟩) rfl _) (p := ⟨w.heap.size, 5, none⟩) rfl _) (by omega)⟩
  · have x0' : (x == 0) = false := by simp [x0]
    by_cases x1 : x = 1
    · subst x1
      go_wp2_with fail
      refine (pick_any R (p1 + 1) 6 _ hO2.rd (by omega) (by omega) (by omega)).mono ?_
      rintro e w3 ⟨y, rfl, hy, hb3, hR3⟩
      have hO3 := hO2.go hb3 hR3
      clear hb3 hR3 hO2
      have c0 := hO3.c0; have f0 := hO3.f0; have g0 := hO3.g0; have e0 := hO3.e0
      have c1 := hO3.c1; have f1 := hO3.f1; have g1 := hO3.g1; have e1 := hO3.e1
      have c2 := hO3.c2; have f2 := hO3.f2; have g2 := hO3.g2; have e2 := hO3.e2
      have c3 := hO3.c3; have f3 := hO3.f3; have g3 := hO3.g3; have e3 := hO3.e3
      have c4 := hO3.c4; have f4 := hO3.f4; have g4 := hO3.g4; have e4 := hO3.e4
      have c5 := hO3.c5; have f5 := hO3.f5; have g5 := hO3.g5; have e5 := hO3.e5
      have hF := hO3.set1 (y - 1)
      go_wp2_with fail
      exact bodyPost_ret (v := .agg #[.int .i64 k, .int .i64 (y - 1), .int .i64 s, .int .i64 t, .int .i64 a, .int .i64 b]) (by simp [results, Tryz.results46, go_sem, g0, g1, g2, g3, g4, g5]) rfl
        ⟨k, (y - 1), s, t, a, b, (p1 + 1 + 1), rfl, ((((((hF.but.setNew (by dsimp only; omega) _).setNew (by dsimp only; omega) _).setNew (by dsimp only; omega) _).setNew (by dsimp only; omega) _).setNew (by dsimp only; omega) _).setNew (by dsimp only; omega) _), by omega, hF.rd.but (C := w.heap.size) (But.setCell (R := w.heap.size) (But.setCell (R := w.heap.size) (But.setCell (R := w.heap.size) (But.setCell (R := w.heap.size) (But.setCell (R := w.heap.size) (But.setCell (R := w.heap.size) (But.refl _ _) (p := ⟨w.heap.size, 0, none⟩) rfl _) (p := ⟨w.heap.size, 1, none⟩) rfl _) (p := ⟨w.heap.size, 2, none⟩) rfl _) (p := ⟨w.heap.size, 3, none⟩) rfl _) (p := ⟨w.heap.size, 4, none⟩) rfl _) (p := ⟨w.heap.size, 5, none⟩) rfl _) (by omega)⟩
    · have x1' : (x == 1) = false := by simp [x1]
      by_cases x2 : x = 2
      · subst x2
        go_wp2_with fail
        refine (val_any R (p1 + 1) _ hO2.rd (by omega)).mono ?_
        rintro e w3 ⟨y, z, p3, rfl, hy, hb3, hp3, hR3⟩
        have hO3 := hO2.go hb3 hR3
        clear hb3 hR3 hO2
        have c0 := hO3.c0; have f0 := hO3.f0; have g0 := hO3.g0; have e0 := hO3.e0
        have c1 := hO3.c1; have f1 := hO3.f1; have g1 := hO3.g1; have e1 := hO3.e1
        have c2 := hO3.c2; have f2 := hO3.f2; have g2 := hO3.g2; have e2 := hO3.e2
        have c3 := hO3.c3; have f3 := hO3.f3; have g3 := hO3.g3; have e3 := hO3.e3
        have c4 := hO3.c4; have f4 := hO3.f4; have g4 := hO3.g4; have e4 := hO3.e4
        have c5 := hO3.c5; have f5 := hO3.f5; have g5 := hO3.g5; have e5 := hO3.e5
        have hF := (hO3.set4 y).set5 z
        go_wp2_with fail
        exact bodyPost_ret (v := .agg #[.int .i64 k, .int .i64 r, .int .i64 s, .int .i64 t, .int .i64 y, .int .i64 z]) (by simp [results, Tryz.results46, go_sem, g0, g1, g2, g3, g4, g5]) rfl
          ⟨k, r, s, t, y, z, p3, rfl, ((((((hF.but.setNew (by dsimp only; omega) _).setNew (by dsimp only; omega) _).setNew (by dsimp only; omega) _).setNew (by dsimp only; omega) _).setNew (by dsimp only; omega) _).setNew (by dsimp only; omega) _), by omega, hF.rd.but (C := w.heap.size) (But.setCell (R := w.heap.size) (But.setCell (R := w.heap.size) (But.setCell (R := w.heap.size) (But.setCell (R := w.heap.size) (But.setCell (R := w.heap.size) (But.setCell (R := w.heap.size) (But.refl _ _) (p := ⟨w.heap.size, 0, none⟩) rfl _) (p := ⟨w.heap.size, 1, none⟩) rfl _) (p := ⟨w.heap.size, 2, none⟩) rfl _) (p := ⟨w.heap.size, 3, none⟩) rfl _) (p := ⟨w.heap.size, 4, none⟩) rfl _) (p := ⟨w.heap.size, 5, none⟩) rfl _) (by omega)⟩
      · have x2' : (x == 2) = false := by simp [x2]
        have hF := hO2
        have c0 := hO2.c0; have f0 := hO2.f0; have g0 := hO2.g0; have e0 := hO2.e0
        have c1 := hO2.c1; have f1 := hO2.f1; have g1 := hO2.g1; have e1 := hO2.e1
        have c2 := hO2.c2; have f2 := hO2.f2; have g2 := hO2.g2; have e2 := hO2.e2
        have c3 := hO2.c3; have f3 := hO2.f3; have g3 := hO2.g3; have e3 := hO2.e3
        have c4 := hO2.c4; have f4 := hO2.f4; have g4 := hO2.g4; have e4 := hO2.e4
        have c5 := hO2.c5; have f5 := hO2.f5; have g5 := hO2.g5; have e5 := hO2.e5
        go_wp2_with fail
        exact bodyPost_ret (v := .agg #[.int .i64 k, .int .i64 r, .int .i64 s, .int .i64 t, .int .i64 a, .int .i64 b]) (by simp [results, Tryz.results46, go_sem, g0, g1, g2, g3, g4, g5]) rfl
          ⟨k, r, s, t, a, b, (p1 + 1), rfl, ((((((hF.but.setNew (by dsimp only; omega) _).setNew (by dsimp only; omega) _).setNew (by dsimp only; omega) _).setNew (by dsimp only; omega) _).setNew (by dsimp only; omega) _).setNew (by dsimp only; omega) _), by omega, hF.rd.but (C := w.heap.size) (But.setCell (R := w.heap.size) (But.setCell (R := w.heap.size) (But.setCell (R := w.heap.size) (But.setCell (R := w.heap.size) (But.setCell (R := w.heap.size) (But.setCell (R := w.heap.size) (But.refl _ _) (p := ⟨w.heap.size, 0, none⟩) rfl _) (p := ⟨w.heap.size, 1, none⟩) rfl _) (p := ⟨w.heap.size, 2, none⟩) rfl _) (p := ⟨w.heap.size, 3, none⟩) rfl _) (p := ⟨w.heap.size, 4, none⟩) rfl _) (p := ⟨w.heap.size, 5, none⟩) rfl _) (by omega)⟩
end Go.Proofs.YtekmjgkjpdhedaaGreatDoor
namespace Go.Proofs.YtekmjgkjpdhedaaGreatDoor
open Go.ChangeShapes Go.WideShapes Go.ChangeAt Go.RowKit Go.Joins
attribute [local go_sem ↓] Go.wp_at_zero Go.wp_at_succ
theorem But.grownNew {R : Nat} {a b c : World} {row : Option Nat} (h : But R a b) (hg : b.grownBy c row) (hr : ∀ k, row = some k → a.heap.size ≤ k) : But R a c :=
  ⟨hg.os.trans h.os, hg.tape.trans h.tape, hg.output.trans h.output, Nat.le_trans h.size hg.size, fun k hk hR => (hg.block k (Nat.lt_of_lt_of_le hk h.size) (fun e => by have := hr k e.symm; omega)).trans (h.block k hk hR)⟩
theorem Rd.grown {R : Nat} {p : Int} {w w' : World} {row : Option Nat} (h : Rd R p w) (hg : w.grownBy w' row) (hr : ∀ k, row = some k → R < k) : Rd R p w' := by
  cases row with
  | none => exact h.below ⟨hg.os, hg.tape, hg.output, hg.size, fun k hk => hg.block k hk (by simp)⟩
  | some C => exact h.but (C := C) ⟨hg.os, hg.tape, hg.output, hg.size, fun k hk hn => hg.block k hk (fun e => hn (Option.some.inj e))⟩ (hr C rfl)
theorem OwnsO.from {w : World} {B : Nat} {v : Value} {C : List OpV} (h : OwnsO w B v C) : ∀ k, v.ownBlock = some k → B ≤ k := fun k e => (World.ownsRow.lt h k e).1
set_option maxRecDepth 20000 in
set_option maxHeartbeats 8000000 in
theorem random_any (R : Nat) (p : Int) (w : World) (h : Rd R p w) (hp : p ≤ 600000) :
    Calls Tryz.prog 35 #[.pointer (some ⟨R, 0, none⟩)] w fun e w' => ∃ (C : List OpV) (v : Value) (p' : Int), e = .returned v ∧ (3 ≤ C.length ∧ C.length ≤ 10) ∧ OwnsO w' w.heap.size v C ∧ But R w w' ∧ (p ≤ p' ∧ p' ≤ p + 300) ∧ Rd R p' w' := by
  have hlt' := h.lt
  have hp0 := h.p0
  obtain ⟨inf, i1, i2, i3, i4⟩ := infoO
  go_enter Tryz.func35, Tryz.ntmps35
  go_wp2_with fail
  refine (pick_any R p 8 _ h (by omega) (by omega) (by omega)).mono ?_
  rintro e w1 ⟨x, rfl, hx, hb1, hR1⟩
  have hz1 := hb1.size
  obtain ⟨y, rfl⟩ : ∃ y : Nat, x = (y : Int) := ⟨x.toNat, by omega⟩
  have hO0 : OwnsO (w1.alloc (.cells #[] 43)) w.heap.size (.slice (some ⟨w1.heap.size, 0, none⟩) 0 0) [] := ownsO_empty _ _ hz1
  go_wp2_with fail
  obtain ⟨m, hm⟩ : ∃ m : Nat, m = y + 2 := ⟨_, rfl⟩
  rw [show 3 + (y : Int) = (m : Int) + 1 by omega]
  go_loopw [4, 5] (fun v i wr => ∃ (k : Nat) (C : List OpV) (q : Int), k ≤ m + 1 ∧ i = .int .i64 k ∧ Hid (C.length = k) ∧ OwnsO wr w.heap.size v C ∧ But R w wr ∧ (p ≤ q ∧ q ≤ p + 1 + 20 * (k : Int)) ∧ Rd R q wr) (fun _ i _ => m + 1 - (intOf i).toNat)
  case atStart => exact ⟨0, [], p + 1, Nat.zero_le _, rfl, rfl, hO0, hb1.alloc _, ⟨by omega, by omega⟩, hR1.below ((Below.refl _ _).alloc (Nat.le_refl _) _)⟩
  case round =>
    clear hO0
    have hm7 : 2 ≤ m ∧ m ≤ 9 := by omega
    clear hm hx
    obtain ⟨k, C, q, hk, rfl, hCk, hO, hB, hq, hR⟩ := hrel
    have hzr := hB.size
    have hCb : C.length ≤ 1048576 := by have := hCk.out; omega
    by_cases hlt : k < m + 1
    · have g1 : (k : Int) < (m : Int) + 1 := by omega
      go_wp2_with fail
      refine (op_any R q ((m : Int) + 1) _ hR (by omega) (by omega) (by omega)).mono ?_
      rintro e w2 ⟨k', r, s, t, a, b, q2, rfl, hb2, hq2, hR2⟩
      have hz2 := hb2.size
      have hO2 := OwnsO.but hO hb2 hlt'
      have hB2 : But R w w2 := hB.trans hb2
      have hfr := OwnsO.from hO
      clear hO hB hb2 hR
      go_wp2_with (refine wpList_append_own _ rfl (.tmp 16) (.tmp 20) 23 rfl w.heap.size 43 inf (.agg #[.int .i64 0, .int .i64 0, .int .i64 0, .int .i64 0, .int .i64 0, .int .i64 0]) 6 48 Tryz.underlying23 i1 i2 i3 i4 rfl (by decide) _ _ _ rfl (World.ownsRow.alloc hO2 _) ⟨w2.heap.size, 0, none⟩ 1 1 (OpV.cells ⟨k', r, s, t, a, b⟩) rfl rfl (by intro q u hq; rcases (by have := (List.getElem?_eq_some_iff.1 hq).1; simp [OpV.cells] at this; omega : q = 0 ∨ q = 1 ∨ q = 2 ∨ q = 3 ∨ q = 4 ∨ q = 5) with rfl | rfl | rfl | rfl | rfl | rfl <;> (simp [OpV.cells] at hq; subst hq; simp [Addr.add, go_sem])) (by simp [OpV.cells, Value.oneCell']) (by unfold maxLen; omega) (by omega) (by simp <;> omega) ?_; intro x0 w4 ho0 hg0 _)
      have hB4 : But R w w4 := (hB2.alloc _).grownNew hg0 hfr
      have hR4 : Rd R q2 w4 := (hR2.below ((Below.refl _ _).alloc (Nat.le_refl _) _)).grown hg0 (fun k hk => by have := hfr k hk; omega)
      go_roundw
      case rel => exact ⟨k + 1, C ++ [⟨k', r, s, t, a, b⟩], q2, by omega, by go_num, (by show _ = _; rw [List.length_append, hCk.out]; rfl), (by unfold OwnsO; rw [cellsO_snoc]; simpa using ho0), hB4, ⟨by omega, by omega⟩, hR4⟩
      case measure => simp [intOf]; omega
    · have e : k = m + 1 := by omega
      subst e
      have g1 : ¬ ((m : Int) + 1) < (m : Int) + 1 := by omega
      have hCm : C.length = m + 1 := hCk.out
      rcases hO.2 with ⟨_, h0⟩ | ⟨g, cap, cur, rfl, hg, hh, _⟩
      · have := hCk.out; omega
      have hgl := (World.ownsRow.lt hO g rfl).2
      clear hh
      go_wp2_with fail
      refine (pick_any R q ((m : Int) + 1) _ hR (by omega) (by omega) (by omega)).mono ?_
      rintro e w2 ⟨z, rfl, hz, hb2, hR2⟩
      have hz2 := hb2.size
      have hO2 := OwnsO.but hO hb2 hlt'
      have hB2 : But R w w2 := hB.trans hb2
      clear hO hB hb2 hR
      go_wp2_with fail
      refine (pick_any R (q + 1) 3 _ (hR2.below ((Below.refl _ _).alloc (Nat.le_refl _) _)) (by omega) (by omega) (by omega)).mono ?_
      rintro e w3 ⟨z2, rfl, hzz, hb3, hR3⟩
      have hz3 := hb3.size
      simp at hz3
      have hO3 := OwnsO.but (World.ownsRow.alloc hO2 _) hb3 hlt'
      have hB3 : But R w w3 := (hB2.alloc _).trans hb3
      obtain ⟨hc3, hf3⟩ := butcell hb3
      have c0 : w3.cell? ⟨w2.heap.size, 0, none⟩ = some (.int .i64 9) := by rw [hc3 _ _ (by simp) (by omega)]; simp [go_sem]
      have c1 : w3.cell? ⟨w2.heap.size, 1, none⟩ = some (.int .i64 0) := by rw [hc3 _ _ (by simp) (by omega)]; simp [go_sem]
      have c2 : w3.cell? ⟨w2.heap.size, 2, none⟩ = some (.int .i64 0) := by rw [hc3 _ _ (by simp) (by omega)]; simp [go_sem]
      have c3 : w3.cell? ⟨w2.heap.size, 3, none⟩ = some (.int .i64 z) := by rw [hc3 _ _ (by simp) (by omega)]; simp [go_sem]
      have c4 : w3.cell? ⟨w2.heap.size, 4, none⟩ = some (.int .i64 0) := by rw [hc3 _ _ (by simp) (by omega)]; simp [go_sem]
      have c5 : w3.cell? ⟨w2.heap.size, 5, none⟩ = some (.int .i64 0) := by rw [hc3 _ _ (by simp) (by omega)]; simp [go_sem]
      have f0 : w3.frozen? ⟨w2.heap.size, 0, none⟩ = false := by rw [hf3 _ _ (by simp) (by omega)]; simp [go_sem]
      have f1 : w3.frozen? ⟨w2.heap.size, 1, none⟩ = false := by rw [hf3 _ _ (by simp) (by omega)]; simp [go_sem]
      have f2 : w3.frozen? ⟨w2.heap.size, 2, none⟩ = false := by rw [hf3 _ _ (by simp) (by omega)]; simp [go_sem]
      have f3 : w3.frozen? ⟨w2.heap.size, 3, none⟩ = false := by rw [hf3 _ _ (by simp) (by omega)]; simp [go_sem]
      have f4 : w3.frozen? ⟨w2.heap.size, 4, none⟩ = false := by rw [hf3 _ _ (by simp) (by omega)]; simp [go_sem]
      have f5 : w3.frozen? ⟨w2.heap.size, 5, none⟩ = false := by rw [hf3 _ _ (by simp) (by omega)]; simp [go_sem]
      clear hc3 hf3 hb3 hO2 hB2 hR2
      obtain ⟨q0, q1, q2', q3, q4, q5⟩ := cellsO_at C m (by omega)
      have kk := World.ownsRow.cellAt (w := w3) (base := w.heap.size) (e := 43) (size := 6) (g := g) (cap := cap) hO3
      have d0 : w3.cell? ⟨g, m * 6, none⟩ = some (.int .i64 C[m].k) := by rw [kk (m * 6) (by omega), q0]
      have d1 : w3.cell? ⟨g, m * 6 + 1, none⟩ = some (.int .i64 C[m].r) := by rw [kk (m * 6 + 1) (by omega), q1]
      have d2 : w3.cell? ⟨g, m * 6 + 2, none⟩ = some (.int .i64 C[m].s) := by rw [kk (m * 6 + 2) (by omega), q2']
      have d3 : w3.cell? ⟨g, m * 6 + 3, none⟩ = some (.int .i64 C[m].t) := by rw [kk (m * 6 + 3) (by omega), q3]
      have d4 : w3.cell? ⟨g, m * 6 + 4, none⟩ = some (.int .i64 C[m].a) := by rw [kk (m * 6 + 4) (by omega), q4]
      have d5 : w3.cell? ⟨g, m * 6 + 5, none⟩ = some (.int .i64 C[m].b) := by rw [kk (m * 6 + 5) (by omega), q5]
      have gf := World.ownsRow.frozenAt (w := w3) (base := w.heap.size) (e := 43) (size := 6) (g := g) (cap := cap) hO3
      have e0 := gf (m * 6)
      have e1 := gf (m * 6 + 1)
      have e2 := gf (m * 6 + 2)
      have e3 := gf (m * 6 + 3)
      have e4 := gf (m * 6 + 4)
      have e5 := gf (m * 6 + 5)
      have hne : g ≠ w2.heap.size := by omega
      have hne' : w2.heap.size ≠ g := by omega
      have hi : (m : Int) < (C.length : Int) := by omega
      generalize C[m] = om at *
      clear kk gf q0 q1 q2' q3 q4 q5 hCm
      by_cases hz0 : z2 = 0
      · subst hz0
        go_wp2_with fail
        have hA := but6 w3 w2.heap.size 0 (.int .i64 14) (.int .i64 0) (.int .i64 0) (.int .i64 0) (.int .i64 0) (.int .i64 0)
        have hO4 := OwnsO.aside hO3 hA (by simp only [Value.ownBlock]; exact fun e => hne (Option.some.inj e))
        have hP := hO4.put m (by have := hCk.out; omega) (⟨14, 0, 0, 0, 0, 0⟩ : OpV)
        go_ret
        refine ⟨C.set m (⟨14, 0, 0, 0, 0, 0⟩ : OpV), _, q + 1 + 1, rfl, ⟨by rw [List.length_set, hCk.out]; omega, by rw [List.length_set, hCk.out]; omega⟩, ?_, ?_, ⟨by omega, by omega⟩, ?_⟩
        · rw [hCk.out] at hP; exact hP
        · exact (hB3.grownNew hA.grows (fun k e => by cases e; omega)).grownNew (but6 _ g (m * 6) _ _ _ _ _ _).grows (fun k e => by cases e; exact hg)
        · exact (hR3.grown hA.grows (fun k e => by cases e; omega)).grown (but6 _ g (m * 6) _ _ _ _ _ _).grows (fun k e => by cases e; omega)
      · have hz0' : (z2 == 0) = false := by simp [hz0]
        go_wp2_with fail
        have hA := But.refl w2.heap.size w3
        have hO4 := OwnsO.aside hO3 hA (by simp only [Value.ownBlock]; exact fun e => hne (Option.some.inj e))
        have hP := hO4.put m (by have := hCk.out; omega) (⟨9, 0, 0, z, 0, 0⟩ : OpV)
        go_ret
        refine ⟨C.set m (⟨9, 0, 0, z, 0, 0⟩ : OpV), _, q + 1 + 1, rfl, ⟨by rw [List.length_set, hCk.out]; omega, by rw [List.length_set, hCk.out]; omega⟩, ?_, ?_, ⟨by omega, by omega⟩, ?_⟩
        · rw [hCk.out] at hP; exact hP
        · exact (hB3.grownNew hA.grows (fun k e => by cases e; omega)).grownNew (but6 _ g (m * 6) _ _ _ _ _ _).grows (fun k e => by cases e; exact hg)
        · exact (hR3.grown hA.grows (fun k e => by cases e; omega)).grown (but6 _ g (m * 6) _ _ _ _ _ _).grows (fun k e => by cases e; omega)
end Go.Proofs.YtekmjgkjpdhedaaGreatDoor
namespace Go.Proofs.YtekmjgkjpdhedaaGreatDoor
def text0 : List UInt8 := [98, 101, 103, 105, 110, 32, 49, 32, 54, 10, 108, 105, 110, 107, 32, 49, 10, 115, 101, 116, 32, 50, 32, 110, 51, 10, 115, 101, 110, 100, 32, 49, 32, 50, 10, 116, 97, 107, 101, 32, 51, 32, 49, 10, 101, 110, 100, 32, 51, 10, 116, 97, 107, 101, 32, 49, 32, 49, 10, 115, 101, 116, 32, 50, 32, 110, 49, 10, 97, 100, 100, 32, 49, 32, 50, 10, 115, 101, 110, 100, 32, 48, 32, 49, 10, 103, 111, 32, 54, 10]
def code0 : List OpV := [⟨5, 1, 0, 6, 0, 0⟩, ⟨11, 1, 0, 0, 0, 0⟩, ⟨1, 2, 0, 0, 1, 3⟩, ⟨6, 1, 2, 0, 0, 0⟩, ⟨7, 3, 1, 0, 0, 0⟩, ⟨14, 3, 0, 0, 0, 0⟩, ⟨7, 1, 1, 0, 0, 0⟩, ⟨1, 2, 0, 0, 1, 1⟩, ⟨3, 1, 2, 0, 0, 0⟩, ⟨6, 0, 1, 0, 0, 0⟩, ⟨9, 0, 0, 6, 0, 0⟩]
theorem code0_ok : codeB code0 = true := by decide +kernel
theorem text0_eq : text0 = linesOf code0 := by decide +kernel
def text1 : List UInt8 := [116, 114, 97, 112, 32, 110, 49, 10, 98, 101, 103, 105, 110, 32, 49, 32, 55, 10, 98, 101, 103, 105, 110, 32, 50, 32, 55, 10, 108, 105, 110, 107, 32, 49, 10, 108, 105, 110, 107, 32, 50, 10, 116, 97, 107, 101, 32, 51, 32, 51, 10, 103, 111, 32, 53, 10, 115, 101, 108, 102, 32, 49, 10, 97, 102, 116, 101, 114, 32, 50, 32, 48, 32, 49, 48, 32, 110, 50, 10, 101, 110, 100, 32, 50, 10, 115, 101, 116, 32, 51, 32, 97, 52, 10, 101, 110, 100, 32, 51, 10]
def code1 : List OpV := [⟨13, 0, 0, 0, 1, 1⟩, ⟨5, 1, 0, 7, 0, 0⟩, ⟨5, 2, 0, 7, 0, 0⟩, ⟨11, 1, 0, 0, 0, 0⟩, ⟨11, 2, 0, 0, 0, 0⟩, ⟨7, 3, 3, 0, 0, 0⟩, ⟨9, 0, 0, 5, 0, 0⟩, ⟨4, 1, 0, 0, 0, 0⟩, ⟨8, 2, 0, 10, 1, 2⟩, ⟨14, 2, 0, 0, 0, 0⟩, ⟨1, 3, 0, 0, 2, 4⟩, ⟨14, 3, 0, 0, 0, 0⟩]
theorem code1_ok : codeB code1 = true := by decide +kernel
theorem text1_eq : text1 = linesOf code1 := by decide +kernel
def text2 : List UInt8 := [98, 101, 103, 105, 110, 32, 49, 32, 53, 10, 119, 97, 116, 99, 104, 32, 49, 10, 116, 97, 107, 101, 32, 50, 32, 48, 10, 109, 111, 118, 101, 32, 51, 32, 50, 10, 103, 111, 32, 50, 10, 108, 105, 110, 107, 32, 48, 10, 116, 97, 107, 101, 32, 49, 32, 50, 10, 105, 102, 32, 49, 32, 57, 32, 97, 48, 10, 103, 111, 32, 54, 10, 101, 110, 100, 32, 49, 10]
def code2 : List OpV := [⟨5, 1, 0, 5, 0, 0⟩, ⟨12, 1, 0, 0, 0, 0⟩, ⟨7, 2, 0, 0, 0, 0⟩, ⟨2, 3, 2, 0, 0, 0⟩, ⟨9, 0, 0, 2, 0, 0⟩, ⟨11, 0, 0, 0, 0, 0⟩, ⟨7, 1, 2, 0, 0, 0⟩, ⟨10, 1, 0, 9, 2, 0⟩, ⟨9, 0, 0, 6, 0, 0⟩, ⟨14, 1, 0, 0, 0, 0⟩]
theorem code2_ok : codeB code2 = true := by decide +kernel
theorem text2_eq : text2 = linesOf code2 := by decide +kernel
def text3 : List UInt8 := [115, 101, 116, 32, 49, 32, 110, 48, 10, 115, 101, 116, 32, 50, 32, 110, 49, 10, 98, 101, 103, 105, 110, 32, 51, 32, 54, 10, 97, 100, 100, 32, 49, 32, 50, 10, 115, 101, 110, 100, 32, 51, 32, 49, 10, 103, 111, 32, 51, 10, 116, 97, 107, 101, 32, 49, 32, 49, 10, 97, 102, 116, 101, 114, 32, 50, 32, 50, 32, 54, 32, 110, 49, 10, 101, 110, 100, 32, 50, 10]
def code3 : List OpV := [⟨1, 1, 0, 0, 1, 0⟩, ⟨1, 2, 0, 0, 1, 1⟩, ⟨5, 3, 0, 6, 0, 0⟩, ⟨3, 1, 2, 0, 0, 0⟩, ⟨6, 3, 1, 0, 0, 0⟩, ⟨9, 0, 0, 3, 0, 0⟩, ⟨7, 1, 1, 0, 0, 0⟩, ⟨8, 2, 2, 6, 1, 1⟩, ⟨14, 2, 0, 0, 0, 0⟩]
theorem code3_ok : codeB code3 = true := by decide +kernel
theorem text3_eq : text3 = linesOf code3 := by decide +kernel
def text4 : List UInt8 := [98, 101, 103, 105, 110, 32, 49, 32, 51, 10, 108, 105, 110, 107, 32, 49, 10, 103, 111, 32, 48, 10, 98, 101, 103, 105, 110, 32, 50, 32, 54, 10, 108, 105, 110, 107, 32, 50, 10, 103, 111, 32, 55, 10, 108, 105, 110, 107, 32, 48, 10, 116, 97, 107, 101, 32, 51, 32, 48, 10, 101, 110, 100, 32, 51, 10]
def code4 : List OpV := [⟨5, 1, 0, 3, 0, 0⟩, ⟨11, 1, 0, 0, 0, 0⟩, ⟨9, 0, 0, 0, 0, 0⟩, ⟨5, 2, 0, 6, 0, 0⟩, ⟨11, 2, 0, 0, 0, 0⟩, ⟨9, 0, 0, 7, 0, 0⟩, ⟨11, 0, 0, 0, 0, 0⟩, ⟨7, 3, 0, 0, 0, 0⟩, ⟨14, 3, 0, 0, 0, 0⟩]
theorem code4_ok : codeB code4 = true := by decide +kernel
theorem text4_eq : text4 = linesOf code4 := by decide +kernel
/-- the texts -/
def textsL : List (List UInt8) := [text0, text1, text2, text3, text4]
theorem texts_code (i : Nat) (h : i < 5) : ∃ D : List OpV, codeB D = true ∧ textsL.getD i [] = linesOf D ∧ 1 ≤ D.length ∧ D.length ≤ 16 := by
  have key : ∀ D : List OpV, codeB D = true → 1 ≤ D.length ∧ D.length ≤ 16 := fun D hD => ⟨(codeB_well hD).1.1, (codeB_well hD).2.1⟩
  rcases (by omega : i = 0 ∨ i = 1 ∨ i = 2 ∨ i = 3 ∨ i = 4) with rfl | rfl | rfl | rfl | rfl
  · exact ⟨code0, code0_ok, text0_eq, key _ code0_ok⟩
  · exact ⟨code1, code1_ok, text1_eq, key _ code1_ok⟩
  · exact ⟨code2, code2_ok, text2_eq, key _ code2_ok⟩
  · exact ⟨code3, code3_ok, text3_eq, key _ code3_ok⟩
  · exact ⟨code4, code4_ok, text4_eq, key _ code4_ok⟩
theorem texts_len (i : Nat) (h : i < 5) : (textsL.getD i []).length ≤ 400 := by
  rcases (by omega : i = 0 ∨ i = 1 ∨ i = 2 ∨ i = 3 ∨ i = 4) with rfl | rfl | rfl | rfl | rfl <;> decide +kernel
end Go.Proofs.YtekmjgkjpdhedaaGreatDoor
namespace Go.Proofs.YtekmjgkjpdhedaaGreatDoor
open Go.ChangeShapes Go.WideShapes Go.ChangeAt Go.RowKit Go.Joins
attribute [local go_sem ↓] Go.wp_at_zero Go.wp_at_succ
/-- the texts, in memory -/
def textsA : Array Value := #[.string ⟨text0.toArray⟩, .string ⟨text1.toArray⟩, .string ⟨text2.toArray⟩, .string ⟨text3.toArray⟩, .string ⟨text4.toArray⟩]
set_option maxRecDepth 20000 in
set_option maxHeartbeats 1000000 in
theorem texts_any (w : World) : Calls Tryz.prog 71 #[] w fun e w' => e = .returned (.slice (some ⟨w.heap.size, 0, none⟩) 5 5) ∧ w' = w.alloc (.cells textsA 9) := by
  go_enter Tryz.func71, Tryz.ntmps71
  go_wp2_with fail
  go_ret
  exact ⟨rfl, rfl⟩
theorem textsA_at (n : Nat) (h : n < 5) : textsA[n]? = some (.string ⟨(textsL.getD n []).toArray⟩) := by
  rcases (by omega : n = 0 ∨ n = 1 ∨ n = 2 ∨ n = 3 ∨ n = 4) with rfl | rfl | rfl | rfl | rfl <;> rfl
set_option maxRecDepth 20000 in
set_option maxHeartbeats 1000000 in
theorem of_any (R b n : Nat) (p : Int) (L : List (List UInt8)) (w : World) (h : Rd R p w) (hp : p ≤ 900000) (hn1 : 1 ≤ n) (hn2 : n ≤ 100) (hb : b < w.heap.size) (hbR : b ≠ R) (hc : ∀ i, i < n → w.cell? ⟨b, i, none⟩ = some (.string ⟨(L.getD i []).toArray⟩)) :
    Calls Tryz.prog 31 #[.pointer (some ⟨R, 0, none⟩), .slice (some ⟨b, 0, none⟩) n n] w fun e w' => ∃ i : Nat, i < n ∧ e = .returned (.string ⟨(L.getD i []).toArray⟩) ∧ But R w w' ∧ Rd R (p + 1) w' := by
  replace hc : Hid (∀ i, i < n → w.cell? ⟨b, i, none⟩ = some (.string ⟨(L.getD i []).toArray⟩)) := hc
  go_enter Tryz.func31, Tryz.ntmps31
  go_wp2_with fail
  refine (pick_any R p (n : Int) _ h (by omega) (by omega) (by omega)).mono ?_
  rintro e w1 ⟨x, rfl, hx, hb1, hR1⟩
  obtain ⟨i, rfl⟩ : ∃ i : Nat, x = (i : Int) := ⟨x.toNat, by omega⟩
  have hi : i < n := by omega
  have hi' : (i : Int) < (n : Int) := by omega
  have c0 : w1.cell? ⟨b, i, none⟩ = some (.string ⟨(L.getD i []).toArray⟩) := (hb1.cell (p := ⟨b, i, none⟩) hb hbR).trans (hc.out i hi)
  go_wp2_with fail
  go_ret
  exact ⟨i, hi, rfl, hb1, hR1⟩
end Go.Proofs.YtekmjgkjpdhedaaGreatDoor
namespace Go.Proofs.YtekmjgkjpdhedaaGreatDoor
open Go.ChangeShapes Go.WideShapes Go.ChangeAt Go.RowKit Go.Joins
attribute [local go_sem ↓] Go.wp_at_zero Go.wp_at_succ
theorem safeOf_ok {C : List OpV} (h : SafeOf C true) : codeB C = true := by
  rcases h with ⟨h, _⟩ | ⟨_, h⟩
  · exact h
  · cases h
theorem specCodeSafe_len (C : List OpV) (ao : Option Addr) (n cap : Nat) (w : World) (hn : C.length = n) (hl : C.length ≤ 1048576) (h : CodeAt w ao C) :
    Calls Tryz.prog 17 #[.slice ao n cap] w fun e w' => ∃ b, e = .returned (.bool b) ∧ SafeOf C b ∧ Below w.heap.size w w' := by
  subst hn; exact specCodeSafe_any C ao cap w hl h
set_option maxRecDepth 20000 in
set_option maxHeartbeats 8000000 in
theorem safe_any (R : Nat) (p : Int) (w : World) (h : Rd R p w) (hp : p ≤ 500000) :
    Calls Tryz.prog 45 #[.pointer (some ⟨R, 0, none⟩)] w fun e w' => ∃ (C : List OpV) (v : Value) (p' : Int), e = .returned v ∧ codeB C = true ∧ OwnsO w' w.heap.size v C ∧ But R w w' ∧ (p ≤ p' ∧ p' ≤ p + 1100) ∧ Rd R p' w' := by
  have hlt' := h.lt
  have hp0 := h.p0
  obtain ⟨inf, i1, i2, i3, i4⟩ := infoO
  go_enter Tryz.func45, Tryz.ntmps45
  go_wp2_with fail
  go_loopw [3] (fun i wr => ∃ (k : Nat) (q : Int), k ≤ 3 ∧ i = .int .i64 k ∧ But R w wr ∧ (p ≤ q ∧ q ≤ p + 300 * (k : Int)) ∧ Rd R q wr) (fun i _ => 3 - (intOf i).toNat)
  case atStart => exact ⟨0, p, by omega, rfl, But.refl _ _, ⟨by omega, by omega⟩, h⟩
  case round =>
    obtain ⟨k, q, hk, rfl, hB, hq, hR⟩ := hrel
    have hzr := hB.size
    by_cases hlt : k < 3
    · have g1 : (k : Int) < 3 := by omega
      go_wp2_with fail
      refine (random_any R q _ hR (by omega)).mono ?_
      rintro e w1 ⟨C, v, q1, rfl, hC1, hO1, hb1, hq1, hR1⟩
      have hz1 := hb1.size
      have hB1 : But R w w1 := hB.trans hb1
      obtain ⟨ao, cap, rfl, hC, _⟩ := hO1.code
      clear hb1 hB hR
      go_wp2_with fail
      refine (specCodeSafe_any C ao cap _ (by omega) hC).mono ?_
      rintro e w2 ⟨b, rfl, hS, hb2⟩
      have hB2 : But R w w2 := hB1.trans (But.of_below hb2)
      have hR2 := hR1.below hb2
      have hO2 := OwnsO.below hO1 hb2
      cases b with
      | true =>
        have hcb : Hid (codeB C = true) := safeOf_ok hS
        clear hS hO1 hR1 hB1
        go_wp2_with fail
        go_ret
        exact ⟨C, _, q1, rfl, hcb.out, OwnsO.mono hO2 hzr, hB2, ⟨by omega, by omega⟩, hR2⟩
      | false =>
        clear hS hO1 hR1 hB1 hO2
        go_wp2_with fail
        go_roundw
        case rel => exact ⟨k + 1, q1, by omega, by go_num, hB2, ⟨by omega, by omega⟩, hR2⟩
        case measure => simp [intOf]; omega
    · have e : k = 3 := by omega
      subst e
      go_wp2_with fail
      refine (texts_any _).mono ?_
      rintro e w1 ⟨rfl, rfl⟩
      go_wp2_with fail
      have hR1 : Rd R q (wr.alloc (.cells textsA 9)) := hR.below ((Below.refl _ _).alloc (Nat.le_refl _) _)
      have hRl := hR.lt
      refine (of_any R wr.heap.size 5 q textsL _ hR1 (by omega) (by omega) (by omega) (by simp) (by omega) (fun i hi => by
        have e := heap_new (w := wr) (o := .cells textsA 9) (n := wr.heap.size) rfl
        rw [cell_of_row _ _ i _ _ _ e, textsA_at i hi])).mono ?_
      rintro e w2 ⟨i, hi, rfl, hb2, hR2⟩
      have hz2 := hb2.size
      simp at hz2
      have hB2 : But R w w2 := (hB.alloc _).trans hb2
      obtain ⟨D, hD, hDt, hD1, hD2⟩ := texts_code i hi
      have hDl := texts_len i hi
      clear hb2 hR1 hR hB
      generalize textsL.getD i [] = tx at *
      replace hDt : Hid (tx = linesOf D) := hDt
      go_wp2_with fail
      refine (specCodeRead_any tx _ (by omega)).mono ?_
      rintro e w3 ⟨C, v, ok, rfl, hRC, hO3, hb3⟩
      obtain ⟨rfl, rfl⟩ := hRC.of_code hD hDt.out
      have hz3 := hb3.size
      have hB3 : But R w w3 := hB2.trans (But.of_below hb3)
      have hR3 := hR2.below hb3
      have hO3' : OwnsO w3 w.heap.size v C := OwnsO.mono hO3 (by omega)
      replace hD : Hid (codeB C = true) := hD
      clear hO3 hb3 hR2 hB2 hRC hDt hDl
      go_wp2_with fail
      go_loopw [5, 7] (fun v i wr => ∃ (k : Nat) (C : List OpV) (q2 : Int), k ≤ 4 ∧ i = .int .i64 k ∧ Hid (codeB C = true) ∧ OwnsO wr w.heap.size v C ∧ But R w wr ∧ (p ≤ q2 ∧ q2 ≤ p + 902 + 30 * (k : Int)) ∧ Rd R q2 wr) (fun _ i _ => 4 - (intOf i).toNat)
      case atStart => exact ⟨0, C, q + 1, by omega, rfl, hD, hO3', hB3, ⟨by omega, by omega⟩, hR3⟩
      clear hD hO3' hB3 hR3 hz3 hz2 hzr
      clear C hD1 hD2
      obtain ⟨k, C, q2, hk, rfl, hD, hO, hB, hq2, hR⟩ := hrel
      have hzr := hB.size
      have hC1 : 1 ≤ C.length := (codeB_well hD.out).1.1
      have hC2 : C.length ≤ 16 := (codeB_well hD.out).2.1
      by_cases hlt : k < 4
      · have g1 : (k : Int) < 4 := by omega
        obtain ⟨g, cap, rfl, hg1, hg2⟩ := hO.blk hC1
        have hrd := OwnsO.read (World.ownsRow.alloc hO (.cells #[] 43))
        go_wp2_with (refine wpList_append_own _ rfl (.tmp 29) (.tmp 30) 23 rfl wr.heap.size 43 inf (.agg #[.int .i64 0, .int .i64 0, .int .i64 0, .int .i64 0, .int .i64 0, .int .i64 0]) 6 48 Tryz.underlying23 i1 i2 i3 i4 rfl (by decide) _ 0 [] rfl (ownsO_empty wr wr.heap.size (Nat.le_refl _)) ⟨g, 0, none⟩ C.length cap (cellsO C) rfl (cellsO_len C) hrd (cellsO_one C) (by unfold maxLen; omega) (by omega) (by simp <;> omega) ?_; intro x0 w4 ho0 hg0 _; have ho1 : OwnsO w4 wr.heap.size x0 C := (by simpa [OwnsO] using ho0); obtain ⟨g2, cap2, rfl, hg3, hg4⟩ := ho1.blk hC1)
        have hB4 : But R w w4 := (hB.alloc _).grownNew hg0 (fun k e => by cases e; omega)
        have hR4 : Rd R q2 w4 := (hR.below ((Below.refl _ _).alloc (Nat.le_refl _) _)).grown hg0 (fun k e => by cases e; show R < wr.heap.size; omega)
        have hO4 : OwnsO w4 w.heap.size (.slice (some ⟨g, 0, none⟩) C.length cap) C := OwnsO.keep (World.ownsRow.alloc hO (.cells #[] 43)) hg0 (fun k e => by cases e; intro e2; have : g = wr.heap.size := Option.some.inj e2; omega)
        clear ho0 hg0 hrd hO hB hR
        have hC3 : (1 : Int) ≤ (C.length : Int) := by omega
        refine (pick_any R q2 (C.length : Int) _ hR4 (by omega) (by omega) (by omega)).mono ?_
        rintro e w5 ⟨x, rfl, hx, hb5, hR5⟩
        obtain ⟨y, rfl⟩ : ∃ y : Nat, x = (y : Int) := ⟨x.toNat, by omega⟩
        have hy : y < C.length := by omega
        have hy' : (y : Int) < (C.length : Int) := by omega
        have hz5 := hb5.size
        have hB5 : But R w w5 := hB4.trans hb5
        have hO5 := OwnsO.but hO4 hb5 hlt'
        have ho5 := OwnsO.but ho1 hb5 (by omega)
        clear hb5 hB4 hR4 hO4 ho1
        go_wp2_with fail
        refine (op_any R (q2 + 1) (C.length : Int) _ hR5 (by omega) (by omega) (by omega)).mono ?_
        rintro e w6 ⟨k', r, s, t, a, b, q3, rfl, hb6, hq3, hR6⟩
        have hz6 := hb6.size
        have hB6 : But R w w6 := hB5.trans hb6
        have hO6 := OwnsO.but hO5 hb6 hlt'
        have ho6 := OwnsO.but ho5 hb6 (by omega)
        obtain ⟨⟨s0, s1, s2, s3, s4, s5⟩, fz⟩ := ho6.stepAt y hy
        have f0 := fz (y * 6)
        have f1 := fz (y * 6 + 1)
        have f2 := fz (y * 6 + 2)
        have f3 := fz (y * 6 + 3)
        have f4 := fz (y * 6 + 4)
        have f5 := fz (y * 6 + 5)
        have hX := ho6.put y hy ⟨k', r, s, t, a, b⟩
        have hbt := but6 w6 g2 (y * 6) (.int .i64 k') (.int .i64 r) (.int .i64 s) (.int .i64 t) (.int .i64 a) (.int .i64 b)
        have hB7 := hB6.grownNew hbt.grows (fun k e => by cases e; omega)
        have hR7 := hR6.grown hbt.grows (fun k e => by cases e; omega)
        have hO7 := OwnsO.aside hO6 hbt (by intro e2; have : g = g2 := Option.some.inj e2; omega)
        replace hX : Hid (OwnsO ((((((w6.setCell ⟨g2, y * 6, none⟩ (.int .i64 k')).setCell ⟨g2, y * 6 + 1, none⟩ (.int .i64 r)).setCell ⟨g2, y * 6 + 2, none⟩ (.int .i64 s)).setCell ⟨g2, y * 6 + 3, none⟩ (.int .i64 t)).setCell ⟨g2, y * 6 + 4, none⟩ (.int .i64 a)).setCell ⟨g2, y * 6 + 5, none⟩ (.int .i64 b)) wr.heap.size (.slice (some ⟨g2, 0, none⟩) C.length cap2) (C.set y ⟨k', r, s, t, a, b⟩)) := hX
        clear fz hb6 hB5 hR5 hO5 ho5 hB6 hR6 hO6 ho6 hbt
        generalize C[y] = oy at *
        go_wp2_with fail
        have hXl : (C.set y ⟨k', r, s, t, a, b⟩).length = C.length := List.length_set
        obtain ⟨ao, cp, hv, hcode, _⟩ := OwnsO.code hX.out
        rw [hXl] at hv
        injection hv with hv1 hv2 hv3
        subst hv1
        clear hv2 hv3
        refine (specCodeSafe_len (C.set y ⟨k', r, s, t, a, b⟩) _ C.length cap2 _ hXl (by omega) hcode).mono ?_
        rintro e w7 ⟨sb, rfl, hS, hb7⟩
        have hB8 := hB7.trans (But.of_below hb7)
        have hR8 := hR7.below hb7
        have hO8 := OwnsO.below hO7 hb7
        have hX8 := OwnsO.below hX.out hb7
        clear hcode hXl hX hB7 hR7 hO7 hb7 s0 s1 s2 s3 s4 s5 f0 f1 f2 f3 f4 f5
        cases sb with
        | false =>
          clear hX8 hS
          go_wp2_with fail
          go_roundw
          case rel => exact ⟨k + 1, C, q3, by omega, by go_num, hD, hO8, hB8, ⟨by omega, by omega⟩, hR8⟩
          case measure => simp [intOf]; omega
        | true =>
          have hcb : Hid (codeB (C.set y ⟨k', r, s, t, a, b⟩) = true) := safeOf_ok hS
          replace hX8 : Hid (OwnsO w7 wr.heap.size (.slice (some ⟨g2, 0, none⟩) C.length cap2) (C.set y ⟨k', r, s, t, a, b⟩)) := hX8
          clear hS
          go_wp2_with fail
          refine (pick_any R q3 2 _ hR8 (by omega) (by omega) (by omega)).mono ?_
          rintro e w8 ⟨x, rfl, hx2, hb8, hR9⟩
          have hB9 : But R w w8 := hB8.trans hb8
          have hO9 := OwnsO.but hO8 hb8 hlt'
          have hX9 : Hid (OwnsO w8 w.heap.size (.slice (some ⟨g2, 0, none⟩) C.length cap2) (C.set y ⟨k', r, s, t, a, b⟩)) := OwnsO.but (OwnsO.mono hX8.out (show w.heap.size ≤ wr.heap.size from hzr)) hb8 hlt'
          clear hO8 hX8 hB8 hR8 hb8
          by_cases hx0 : x = 0
          · subst hx0
            go_wp2_with fail
            go_roundw
            case rel => exact ⟨k + 1, _, q3 + 1, by omega, by go_num, hcb, by have h9 := hX9.out; unfold OwnsO at h9 ⊢; rw [List.length_set] at h9 ⊢; exact h9, hB9, ⟨by omega, by omega⟩, hR9⟩
            case measure => simp [intOf]; omega
          · have hx0' : (x == 0) = false := by simp [hx0]
            clear hX9
            go_wp2_with fail
            go_roundw
            case rel => exact ⟨k + 1, C, q3 + 1, by omega, by go_num, hD, hO9, hB9, ⟨by omega, by omega⟩, hR9⟩
            case measure => simp [intOf]; omega
      · have e : k = 4 := by omega
        subst e
        go_wp2_with fail
        go_ret
        exact ⟨C, _, q2, rfl, hD.out, hO, hB, ⟨by omega, by omega⟩, hR⟩
end Go.Proofs.YtekmjgkjpdhedaaGreatDoor
namespace Go.Proofs.YtekmjgkjpdhedaaGreatDoor
open Go.ChangeShapes Go.WideShapes Go.ChangeAt Go.RowKit Go.Joins
attribute [local go_sem ↓] Go.wp_at_zero Go.wp_at_succ
set_option maxRecDepth 20000 in
set_option maxHeartbeats 8000000 in
theorem code_any (R : Nat) (p : Int) (w : World) (h : Rd R p w) (hp : p ≤ 400000) :
    Calls Tryz.prog 24 #[.pointer (some ⟨R, 0, none⟩)] w fun e w' => ∃ (C : List OpV) (v : Value) (p' : Int), e = .returned v ∧ C.length ≤ 17 ∧ OwnsO w' w.heap.size v C ∧ But R w w' ∧ (p ≤ p' ∧ p' ≤ p + 1500) ∧ Rd R p' w' := by
  have hlt' := h.lt
  have hp0 := h.p0
  obtain ⟨inf, i1, i2, i3, i4⟩ := infoO
  go_enter Tryz.func24, Tryz.ntmps24
  go_wp2_with fail
  refine (safe_any R p _ h (by omega)).mono ?_
  rintro e w1 ⟨C, v, q, rfl, hD, hO, hB, hq, hR⟩
  have hz1 := hB.size
  have hC1 : 1 ≤ C.length := (codeB_well hD).1.1
  have hC2 : C.length ≤ 16 := (codeB_well hD).2.1
  obtain ⟨g, cap, rfl, hg1, hg2⟩ := hO.blk hC1
  obtain ⟨hr1, hr2⟩ := hO.room
  clear hD
  go_wp2_with fail
  refine (pick_any R q 12 _ hR (by omega) (by omega) (by omega)).mono ?_
  rintro e w2 ⟨x, rfl, hx, hb2, hR2⟩
  have hz2 := hb2.size
  have hB2 : But R w w2 := hB.trans hb2
  have hO2 := OwnsO.but hO hb2 hlt'
  clear hO hB hR hb2
  have hC3 : (1 : Int) ≤ (C.length : Int) := by omega
  by_cases x0 : x = 0
  · subst x0
    go_wp2_with fail
    refine (random_any R (q + 1) _ hR2 (by omega)).mono ?_
    rintro e w3 ⟨D, u, q3, rfl, hD1, hO3, hb3, hq3, hR3⟩
    go_wp2_with fail
    go_ret
    exact ⟨D, _, q3, rfl, by omega, OwnsO.mono hO3 (by omega), hB2.trans hb3, ⟨by omega, by omega⟩, hR3⟩
  have x0' : (x == 0) = false := by simp [x0]
  by_cases x1 : x = 1
  · subst x1
    clear x0'
    go_wp2_with fail
    refine (pick_any R (q + 1) (C.length : Int) _ hR2 (by omega) (by omega) (by omega)).mono ?_
    rintro e w5 ⟨x, rfl, hx, hb5, hR5⟩
    obtain ⟨y, rfl⟩ : ∃ y : Nat, x = (y : Int) := ⟨x.toNat, by omega⟩
    have hy : y < C.length := by omega
    have hy' : (y : Int) < (C.length : Int) := by omega
    have hz5 := hb5.size
    have hB5 : But R w w5 := hB2.trans hb5
    have hO5 := OwnsO.but hO2 hb5 hlt'
    clear hb5 hB2 hR2 hO2
    go_wp2_with fail
    refine (anyOp_any R (q + 1 + 1) _ hR5 (by omega)).mono ?_
    rintro e w6 ⟨k', r, s, t, a, b, q3, rfl, hb6, hq3, hR6⟩
    have hz6 := hb6.size
    have hB6 : But R w w6 := hB5.trans hb6
    have ho6 := OwnsO.but hO5 hb6 hlt'
    obtain ⟨⟨s0, s1, s2, s3, s4, s5⟩, fz⟩ := ho6.stepAt y hy
    have f0 := fz (y * 6)
    have f1 := fz (y * 6 + 1)
    have f2 := fz (y * 6 + 2)
    have f3 := fz (y * 6 + 3)
    have f4 := fz (y * 6 + 4)
    have f5 := fz (y * 6 + 5)
    have hX := ho6.put y hy ⟨k', r, s, t, a, b⟩
    have hbt := but6 w6 g (y * 6) (.int .i64 k') (.int .i64 r) (.int .i64 s) (.int .i64 t) (.int .i64 a) (.int .i64 b)
    have hB7 := hB6.grownNew hbt.grows (fun k e => by cases e; omega)
    have hR7 := hR6.grown hbt.grows (fun k e => by cases e; omega)
    replace hX : Hid (OwnsO ((((((w6.setCell ⟨g, y * 6, none⟩ (.int .i64 k')).setCell ⟨g, y * 6 + 1, none⟩ (.int .i64 r)).setCell ⟨g, y * 6 + 2, none⟩ (.int .i64 s)).setCell ⟨g, y * 6 + 3, none⟩ (.int .i64 t)).setCell ⟨g, y * 6 + 4, none⟩ (.int .i64 a)).setCell ⟨g, y * 6 + 5, none⟩ (.int .i64 b)) w.heap.size (.slice (some ⟨g, 0, none⟩) C.length cap) (C.set y ⟨k', r, s, t, a, b⟩)) := hX
    clear fz hb6 hB5 hR5 hO5 hB6 hR6 ho6 hbt
    generalize C[y] = oy at *
    go_wp2_with fail
    go_ret
    exact ⟨_, _, q3, rfl, by rw [List.length_set]; omega, hX.out, hB7, ⟨by omega, by omega⟩, hR7⟩
  have x1' : (x == 1) = false := by simp [x1]
  by_cases x2 : x = 2
  · subst x2
    clear x0' x1'
    go_wp2_with fail
    refine (pick_any R (q + 1) ((C.length : Int) + 1) _ hR2 (by omega) (by omega) (by omega)).mono ?_
    rintro e w5 ⟨x, rfl, hx, hb5, hR5⟩
    obtain ⟨y, rfl⟩ : ∃ y : Nat, x = (y : Int) := ⟨x.toNat, by omega⟩
    have hy : y ≤ C.length := by omega
    have hy' : (y : Int) ≤ (cap : Int) := by omega
    have hB5 : But R w w5 := hB2.trans hb5
    have hO5 := OwnsO.but hO2 hb5 hlt'
    have hT : Hid (OwnsO w5 w.heap.size (.slice (some ⟨g, 0, none⟩) y cap) (C.take y)) := hO5.cut y hy
    clear hb5 hB2 hR2 hO2 hO5
    go_wp2_with fail
    go_ret
    exact ⟨_, _, q + 1 + 1, rfl, by rw [List.length_take]; omega, hT.out, hB5, ⟨by omega, by omega⟩, hR5⟩
  have x2' : (x == 2) = false := by simp [x2]
  by_cases x3 : x = 3
  · subst x3
    clear x0' x1' x2'
    go_wp2_with fail
    go_loopg [3] (17 - C.length) (fun gk v wx => ∃ (D : List OpV) (q2 : Int), Hid (gk = 17 - D.length) ∧ (1 ≤ D.length ∧ D.length ≤ 17) ∧ OwnsO wx w.heap.size v D ∧ But R w wx ∧ (p ≤ q2 ∧ q2 ≤ p + 1101 + (D.length : Int)) ∧ Rd R q2 wx)
    case atStart => exact ⟨C, q + 1, rfl, ⟨hC1, by omega⟩, hO2, hB2, ⟨by omega, by omega⟩, hR2⟩
    case round =>
      clear hO2 hB2 hR2
      obtain ⟨D, q2, hgk, ⟨hD1, hD2⟩, hO, hB, hq2, hR⟩ := hrel
      have hzr := hB.size
      obtain ⟨g', cap', rfl, hg3, hg4⟩ := hO.blk hD1
      go_wp2_with fail
      refine (pick_any R q2 2 _ hR (by omega) (by omega) (by omega)).mono ?_
      rintro e w3 ⟨x, rfl, hx2, hb3, hR3⟩
      have hz3 := hb3.size
      have hB3 : But R w w3 := hB.trans hb3
      have hO3 := OwnsO.but hO hb3 hlt'
      clear hO hB hR hb3
      by_cases hlt : (D.length : Int) < 16 + x
      · go_wp2_with (refine wpList_append_own _ rfl (.tmp 39) (.tmp 41) 23 rfl w.heap.size 43 inf (.agg #[.int .i64 0, .int .i64 0, .int .i64 0, .int .i64 0, .int .i64 0, .int .i64 0]) 6 48 Tryz.underlying23 i1 i2 i3 i4 rfl (by decide) _ _ _ rfl (World.ownsRow.alloc hO3 _) ⟨w3.heap.size, 0, none⟩ 1 1 (OpV.cells ⟨14, 0, 0, 0, 0, 0⟩) rfl rfl (by intro q u hq; rcases (by have := (List.getElem?_eq_some_iff.1 hq).1; simp [OpV.cells] at this; omega : q = 0 ∨ q = 1 ∨ q = 2 ∨ q = 3 ∨ q = 4 ∨ q = 5) with rfl | rfl | rfl | rfl | rfl | rfl <;> (simp [OpV.cells] at hq; subst hq; simp [Addr.add, go_sem])) (by simp [OpV.cells, Value.oneCell']) (by unfold maxLen; omega) (by omega) (by simp <;> omega) ?_; intro x0 w4 ho0 hg0 _)
        have hB4 : But R w w4 := (hB3.alloc _).grownNew hg0 (fun k e => by cases e; exact hg3)
        have hR4 : Rd R (q2 + 1) w4 := (hR3.below ((Below.refl _ _).alloc (Nat.le_refl _) _)).grown hg0 (fun k e => by cases e; show R < g'; omega)
        go_roundg (17 - (D ++ [(⟨14, 0, 0, 0, 0, 0⟩ : OpV)]).length)
        case measure => have := hgk.out; rw [List.length_append, List.length_singleton]; omega
        case rel => exact ⟨D ++ [(⟨14, 0, 0, 0, 0, 0⟩ : OpV)], q2 + 1, (show _ = _ from rfl), ⟨by rw [List.length_append, List.length_singleton]; omega, by rw [List.length_append, List.length_singleton]; omega⟩, (by unfold OwnsO; rw [cellsO_snoc]; simpa using ho0), hB4, ⟨by omega, by rw [List.length_append, List.length_singleton]; omega⟩, hR4⟩
      · go_wp2_with fail
        go_ret
        exact ⟨D, _, q2 + 1, rfl, by omega, hO3, hB3, ⟨by omega, by omega⟩, hR3⟩
  have x3' : (x == 3) = false := by simp [x3]
  go_wp2_with fail
  go_ret
  exact ⟨C, _, q + 1, rfl, by omega, hO2, hB2, ⟨by omega, by omega⟩, hR2⟩
end Go.Proofs.YtekmjgkjpdhedaaGreatDoor
