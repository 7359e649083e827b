/-
  How a code that was handed to a law is opened by spec.l6Open, over this translation.
-/
import Derived.Test.YtckdceogjfgleaaDraw
namespace Go.Proofs.Ytckdceogjfgleaa
open Go.ChangeShapes Go.WideShapes Go.ChangeAt Go.RowKit Go.Joins
/-- what the walk is told of a code: so many bytes, that can be read, and room behind them -/
def Code0 (w : World) (a : Option Addr) (len cap : Nat) : Prop := len ≤ cap ∧ cap ≤ maxLen ∧ Bys w.heap.size a len w
theorem Code0.below {w w' : World} {a : Option Addr} {len cap : Nat} (h : Code0 w a len cap) (hb : Below w.heap.size w w') : Code0 w' a len cap := by
  obtain ⟨h0, h1, h2⟩ := h
  refine ⟨h0, h1, ?_⟩
  rcases h2 with h | ⟨b, off, ha, hlt, z, hz, hc⟩
  · exact .inl h
  · exact .inr ⟨b, off, ha, Nat.lt_of_lt_of_le hlt hb.size, z, hz, fun i hi => (hb.cell (p := ⟨b, off + i, none⟩) hlt).trans (hc i hi)⟩
theorem rd_new {w : World} {a : Option Addr} {len cap : Nat} (hl : len ≤ 2000) (hB : Bys w.heap.size a len w) : Rd w.heap.size 0 (w.alloc (.cells #[.slice a len cap, .int .i64 0] 83)) := by
  refine ⟨by simp, by omega, ⟨a, len, cap, by simp [go_sem], hl, ?_⟩, by simp [go_sem], by simp [go_sem]⟩
  rcases hB with h | ⟨b, off, ha, hlt, z, hz, hc⟩
  · exact .inl h
  · exact .inr ⟨b, off, ha, hlt, z, hz, fun i hi => by rw [World.cell?_alloc_past _ _ _ hlt]; exact hc i hi⟩
set_option maxHeartbeats 400000 in
theorem open_short (a : Option Addr) (len cap : Nat) (w : World) (hl : len ≤ 2000) :
    Calls Try.prog 27 #[.slice a len cap] w fun e w' => e = .returned (.pointer (some ⟨w.heap.size, 0, none⟩)) ∧ w' = w.alloc (.cells #[.slice a len cap, .int .i64 0] 83) := by
  have h : ¬ (2000 : Int) < (len : Int) := by omega
  go_enter Try.func27, Try.ntmps27
  go_wp2_with fail
  go_ret
  exact ⟨rfl, rfl⟩
set_option maxHeartbeats 400000 in
theorem open_long (b off len cap : Nat) (w : World) (hl : 2000 < len) (hc : len ≤ cap) (hm : cap ≤ maxLen) :
    Calls Try.prog 27 #[.slice (some ⟨b, off, none⟩) len cap] w fun e w' => e = .returned (.pointer (some ⟨w.heap.size, 0, none⟩)) ∧ w' = w.alloc (.cells #[.slice (some ⟨b, off, none⟩) 2000 cap, .int .i64 0] 83) := by
  unfold maxLen at hm
  have h : (2000 : Int) < (len : Int) := by omega
  have h2 : (2000 : Int) ≤ (cap : Int) := by omega
  go_enter Try.func27, Try.ntmps27
  go_wp2_with fail
  go_ret
  exact ⟨rfl, rfl⟩
/-- a code is opened -/
theorem open_any (a : Option Addr) (len cap : Nat) (w : World) (h : Code0 w a len cap) :
    Calls Try.prog 27 #[.slice a len cap] w fun e w' => e = .returned (.pointer (some ⟨w.heap.size, 0, none⟩)) ∧ Below w.heap.size w w' ∧ Rd w.heap.size 0 w' := by
  obtain ⟨h0, h1, h2⟩ := h
  by_cases hl : len ≤ 2000
  · refine (open_short a len cap w hl).mono fun e w' ⟨he, hw⟩ => ⟨he, ?_, ?_⟩
    · rw [hw]; exact (Below.refl _ _).alloc (Nat.le_refl _) _
    · rw [hw]; exact rd_new hl h2
  · rcases h2 with h | ⟨b, off, rfl, hlt, z, hz, hc⟩
    · omega
    · refine (open_long b off len cap w (by omega) h0 h1).mono fun e w' ⟨he, hw⟩ => ⟨he, ?_, ?_⟩
      · rw [hw]; exact (Below.refl _ _).alloc (Nat.le_refl _) _
      · rw [hw]; exact rd_new (Nat.le_refl _) (.inr ⟨b, off, rfl, hlt, z, hz, fun i hi => hc i (by omega)⟩)
/-- out of a slice of bytes that came in -/
theorem code_of_row {W : World} {a : Option Addr} {len cap : Nat} {zs : List Int}
    (h : (a = none ∧ len = 0 ∧ cap = 0 ∧ zs = []) ∨ ∃ x, a = some x ∧ len ≤ cap ∧ cap ≤ maxLen ∧ zs.length = cap ∧ (∀ i, i < zs.length → W.cell? (x.add i) = some (.int .u8 (zs.getD i 0))) ∧ ∀ n ∈ zs, (Lit.int .u8 n).wf = true) : Code0 W a len cap := by
  rcases h with ⟨rfl, rfl, rfl, rfl⟩ | ⟨x, rfl, hl, hm, hz, hcell, hwz⟩
  · exact ⟨Nat.le_refl _, by unfold maxLen; omega, .inl rfl⟩
  · refine ⟨hl, hm, ?_⟩
    by_cases h0 : len = 0
    · exact .inl h0
    · obtain ⟨b, off, spot⟩ := x
      have hc := hcell 0 (by omega)
      have hspot : spot = none := by simpa [Addr.add] using World.cell?_spot hc
      subst hspot
      have hlt : b < W.heap.size := by simpa [Addr.add] using World.block_lt_of_cell? _ _ hc
      refine .inr ⟨b, off, rfl, hlt, fun i => zs.getD i 0, fun i => ?_, fun i hi => ?_⟩
      · by_cases hi : i < zs.length
        · have hw := hwz (zs.getD i 0) (by rw [List.getD_eq_getElem?_getD, List.getElem?_eq_getElem hi]; exact List.getElem_mem hi)
          have := bounds_u8 hw
          exact this
        · have : zs.getD i 0 = 0 := by rw [List.getD_eq_getElem?_getD, List.getElem?_eq_none (by omega)]; rfl
          show 0 ≤ zs.getD i 0 ∧ zs.getD i 0 ≤ 255; rw [this]; omega
      · have := hcell i (by omega)
        by_cases hi0 : i = 0
        · subst hi0; simpa [Addr.add] using this
        · simpa [Addr.add, hi0] using this
end Go.Proofs.Ytckdceogjfgleaa
