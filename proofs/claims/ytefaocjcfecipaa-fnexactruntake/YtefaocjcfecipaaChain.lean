/-
  The chain of letters that the program makes of a run's mail, over this translation: impl's chainOf and aheadOf.
-/
import Derived.Test.YtefaocjcfecipaaRunOkI
namespace Go.Proofs.Ytefaocjcfecipaa
open Go.ChangeShapes Go.WideShapes Go.ChangeAt Go.RowKit Go.Joins
/-- from the letter of block b on, the values of M, each in a letter of its own, up to the letter of block l -/
def Seg (w : World) : Nat → List (Int × Int) → Nat → Prop
  | b, [], l => b = l
  | b, v :: M, l => ∃ c, b < c ∧ w.cell? ⟨b, 2, none⟩ = some (.pointer (some ⟨c, 0, none⟩)) ∧ ValAt w c 0 v ∧ Seg w c M l
theorem Seg.le {w : World} : ∀ {M : List (Int × Int)} {b l : Nat}, Seg w b M l → b ≤ l
  | [], _, _, h => Nat.le_of_eq h
  | _ :: _, _, _, ⟨_, hc, _, _, h⟩ => Nat.le_trans (Nat.le_of_lt hc) h.le
theorem Seg.same {w w' : World} : ∀ {M : List (Int × Int)} {b l : Nat}, Seg w b M l → (∀ p : Addr, p.block ≤ l → w'.cell? p = w.cell? p) → Seg w' b M l
  | [], _, _, h, _ => h
  | v :: M, b, l, ⟨c, hc, h1, h2, h⟩, hk => ⟨c, hc, (hk ⟨b, 2, none⟩ (by have := h.le; show b ≤ l; omega)).trans h1, ⟨(hk ⟨c, 0, none⟩ h.le).trans h2.1, (hk ⟨c, 1, none⟩ h.le).trans h2.2⟩, h.same hk⟩
theorem Seg.snoc {w w' : World} {c : Nat} {v : Int × Int} : ∀ {M : List (Int × Int)} {b l : Nat}, Seg w b M l → l < c → (∀ x y : Nat, x ≤ l → (x < l ∨ y ≠ 2) → w'.cell? ⟨x, y, none⟩ = w.cell? ⟨x, y, none⟩) → w'.cell? ⟨l, 2, none⟩ = some (.pointer (some ⟨c, 0, none⟩)) → ValAt w' c 0 v → Seg w' b (M ++ [v]) c
  | [], b, l, h, hc, _, h2, hv => by
    have h' : b = l := h
    subst h'
    exact ⟨c, hc, h2, hv, rfl⟩
  | u :: M, b, l, ⟨d, hd, h1, hu, h⟩, hc, hk, h2, hv => by
    have hdl := h.le
    exact ⟨d, hd, (hk b 2 (by omega) (.inl (by omega))).trans h1, ⟨(hk d 0 hdl (.inr (by omega))).trans hu.1, (hk d 1 hdl (.inr (by omega))).trans hu.2⟩, h.snoc hc hk h2 hv⟩
theorem frozen_past (w : World) (b o : Nat) (h : w.heap.size ≤ b) : w.frozen? ⟨b, o, none⟩ = false := by
  unfold World.frozen?
  rw [show w.heap[b]? = none from Array.getElem?_eq_none h]
theorem set_other (w : World) (l x y : Nat) (v : Value) (h : x < l ∨ y ≠ 2) : (w.setCell ⟨l, 2, none⟩ v).cell? ⟨x, y, none⟩ = w.cell? ⟨x, y, none⟩ := by
  by_cases hx : l = x
  · subst hx
    have hy : y ≠ 2 := by omega
    exact World.cell?_setCell_other w _ _ v (by intro e; injection e with _ e2; omega)
  · exact World.cell?_setCell_far w _ _ v hx
set_option maxRecDepth 20000 in
set_option maxHeartbeats 4000000 in
theorem chainOf_any (S : Nat) (M : List (Int × Int)) (b o cap : Nat) (w : World) (hS : S ≤ w.heap.size) (hl : M.length ≤ 1048576) (hb : b < S) (hc : ∀ i (h : i < M.length), ValAt w b (o + i * 2) M[i]) :
    Calls Try.prog 53 #[.slice (some ⟨b, o, none⟩) M.length cap] w fun e w' => e = .returned (.pointer (some ⟨w.heap.size, 0, none⟩)) ∧ (∃ l, Seg w' w.heap.size M l ∧ l < w'.heap.size ∧ w'.cell? ⟨l, 2, none⟩ = some (.pointer none)) ∧ Below w.heap.size w w' := by
  replace hc : Hid (∀ i (h : i < M.length), ValAt w b (o + i * 2) M[i]) := hc
  go_enter Try.func53, Try.ntmps53
  go_wp2_with fail
  go_loopw [4, 12] (fun l i wr => ∃ k lb : Nat, k ≤ M.length ∧ i = .int .i64 k ∧ l = .pointer (some ⟨lb, 0, none⟩) ∧ Seg wr w.heap.size (M.take k) lb ∧ lb < wr.heap.size ∧ wr.cell? ⟨lb, 2, none⟩ = some (.pointer none) ∧ wr.frozen? ⟨lb, 2, none⟩ = false ∧ Below w.heap.size w wr) (fun _ i _ => M.length - (intOf i).toNat)
  case atStart => exact ⟨0, w.heap.size, Nat.zero_le _, rfl, rfl, rfl, by simp, by simp [go_sem], by rw [frozen?_alloc_cells]; exact frozen_past _ _ _ (Nat.le_refl _), (Below.refl _ _).alloc (Nat.le_refl _) _⟩
  case round =>
    obtain ⟨k, lb, hk, rfl, rfl, hG, hlb, hn, hfz, hBr⟩ := hrel
    have hzr := hBr.size
    by_cases hlt : k < M.length
    · have g1 : (k : Int) < (M.length : Int) := by omega
      obtain ⟨v0, v1⟩ := hc.out k hlt
      have d0 : wr.cell? ⟨b, o + k * 2, none⟩ = some (.int .i64 M[k].1) := (hBr.cell (p := ⟨b, o + k * 2, none⟩) (by show b < w.heap.size; omega)).trans v0
      have d1 : wr.cell? ⟨b, o + k * 2 + 1, none⟩ = some (.int .i64 M[k].2) := (hBr.cell (p := ⟨b, o + k * 2 + 1, none⟩) (by show b < w.heap.size; omega)).trans v1
      have hwl := hG.le
      have htk : M.take (k + 1) = M.take k ++ [(M[k].1, M[k].2)] := by rw [List.take_succ_eq_append_getElem hlt]
      replace htk : Hid (M.take (k + 1) = M.take k ++ [(M[k].1, M[k].2)]) := htk
      clear v0 v1
      generalize M[k].1 = x at *
      generalize M[k].2 = y at *
      replace hG : Hid (Seg wr w.heap.size (M.take k) lb) := hG
      go_wp2_with fail
      go_roundw
      case rel =>
        have hX : Below wr.heap.size (wr.setCell ⟨lb, 2, none⟩ (.pointer (some ⟨wr.heap.size + 1, 0, none⟩))) (((wr.setCell ⟨lb, 2, none⟩ (.pointer (some ⟨wr.heap.size + 1, 0, none⟩))).alloc (.cells #[.int .i64 x, .int .i64 y] 24)).alloc (.cells #[.int .i64 x, .int .i64 y, .pointer none] 91)) := (((Below.refl _ _).alloc (by simp) _).alloc (by simp) _)
        refine ⟨k + 1, wr.heap.size + 1, by omega, by go_num, rfl, ?_, by simp, by simp [go_sem], by rw [frozen?_alloc_cells, frozen?_alloc_cells]; exact frozen_past _ _ _ (by simp), ((hBr.setCell (p := ⟨lb, 2, none⟩) hwl _).alloc (by simp; omega) _).alloc (by simp; omega) _⟩
        rw [htk.out]
        refine hG.out.snoc (by omega) (fun a e ha hae => ?_) ?_ ⟨by simp [go_sem], by simp [go_sem]⟩
        · exact (hX.cell (p := ⟨a, e, none⟩) (by show a < wr.heap.size; omega)).trans (set_other wr lb a e _ hae)
        · refine (hX.cell (p := ⟨lb, 2, none⟩) hlb).trans ?_
          exact World.cell?_setCell_same _ _ _ hn
      case measure => simp [intOf]; omega
    · have e : k = M.length := by omega
      subst e
      rw [List.take_length] at hG
      replace hG : Hid (Seg wr w.heap.size M lb) := hG
      go_wp2_with fail
      go_ret
      exact ⟨rfl, ⟨lb, hG.out, hlb, hn⟩, hBr⟩
end Go.Proofs.Ytefaocjcfecipaa
