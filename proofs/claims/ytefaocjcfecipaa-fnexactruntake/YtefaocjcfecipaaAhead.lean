/-
  The letter ahead of the eldest that fits a kind, over this translation: impl's ValFits and aheadOf.
-/
import Derived.Test.YtefaocjcfecipaaChain
namespace Go.Proofs.Ytefaocjcfecipaa
open Go.ChangeShapes Go.WideShapes Go.ChangeAt Go.RowKit Go.Joins
namespace AH
/-- whether a value is of a kind -/
def fitsB (k n kind : Int) : Bool := okB k n && (kind == 0 || kind == k)
set_option maxHeartbeats 400000 in
theorem implFits_any (k n kind : Int) (w : World) :
    Calls Try.prog 74 #[.agg #[.int .i64 k, .int .i64 n], .int .i64 kind] w fun e w' => e = .returned (.bool (fitsB k n kind)) ∧ Below w.heap.size w w' := by
  cases hok : okB k n with
  | false =>
    have hfin : Hid (fitsB k n kind = false) := by show fitsB k n kind = false; simp [fitsB, hok]
    go_enter Try.func74, Try.ntmps74
    go_wp2_with (go_at_call 36; refine (implOk_any _ _ _).mono ?_; rintro e w1 ⟨rfl, hb⟩)
    go_ret
    exact ⟨by rw [hfin.out]; rfl, ((Below.refl _ _).alloc (Nat.le_refl _) _).trans (hb.mono (by simp))⟩
  | true =>
    by_cases hz : kind = 0
    · have hfin : Hid (fitsB k n kind = true) := by show fitsB k n kind = true; simp [fitsB, hok, hz]
      subst hz
      go_enter Try.func74, Try.ntmps74
      go_wp2_with (go_at_call 36; refine (implOk_any _ _ _).mono ?_; rintro e w1 ⟨rfl, hb⟩)
      go_ret
      exact ⟨by rw [hfin.out]; rfl, ((Below.refl _ _).alloc (Nat.le_refl _) _).trans (hb.mono (by simp))⟩
    · have hz' : (kind == 0) = false := by simp [hz]
      have hfin : Hid (fitsB k n kind = (kind == k)) := by show fitsB k n kind = (kind == k); simp [fitsB, hok, hz']
      go_enter Try.func74, Try.ntmps74
      go_wp2_with fail
      refine (implOk_any _ _ _).mono ?_
      rintro e w1 ⟨rfl, hb⟩
      obtain ⟨hc, hf⟩ := bcell hb
      go_wp2_with fail
      go_ret
      exact ⟨by rw [hfin.out]; rfl, ((Below.refl _ _).alloc (Nat.le_refl _) _).trans (hb.mono (by simp))⟩
/-- what aheadOf answers: where it is in the chain -/
def Aheads (w : World) (h : Nat) (M : List (Int × Int)) (l : Nat) (kind : Int) (e : Ending) : Prop :=
  (∃ k ab, ∃ hk : k < M.length, e = .returned (.tuple #[.pointer (some ⟨ab, 0, none⟩), .int .i64 k]) ∧ Seg w h (M.take k) ab ∧ Seg w ab (M.drop k) l ∧ fitsB M[k].1 M[k].2 kind = true ∧ ∀ j (h : j < M.length), j < k → fitsB M[j].1 M[j].2 kind = false)
  ∨ (e = .returned (.tuple #[.pointer none, .int .i64 0]) ∧ ∀ j (h : j < M.length), fitsB M[j].1 M[j].2 kind = false)
set_option maxRecDepth 20000 in
set_option maxHeartbeats 4000000 in
theorem aheadOf_any (h l : Nat) (M : List (Int × Int)) (kind : Int) (w : World) (hl : M.length ≤ 1048576) (hG : Seg w h M l) (hlw : l < w.heap.size) (hn : w.cell? ⟨l, 2, none⟩ = some (.pointer none)) :
    Calls Try.prog 54 #[.pointer (some ⟨h, 0, none⟩), .int .i64 kind] w fun e w' => Aheads w h M l kind e ∧ Below w.heap.size w w' := by
  replace hG : Hid (Seg w h M l) := hG
  go_enter Try.func54, Try.ntmps54
  go_wp2_with fail
  go_loopw [6, 7] (fun i a wr => ∃ k ab : Nat, k ≤ M.length ∧ i = .int .i64 k ∧ a = .pointer (some ⟨ab, 0, none⟩) ∧ Seg w h (M.take k) ab ∧ Seg w ab (M.drop k) l ∧ (∀ j (h : j < M.length), j < k → fitsB M[j].1 M[j].2 kind = false) ∧ Below w.heap.size w wr) (fun i _ _ => M.length - (intOf i).toNat)
  case atStart => exact ⟨0, h, Nat.zero_le _, rfl, rfl, rfl, hG.out, fun j _ hj => by omega, Below.refl _ _⟩
  case round =>
    obtain ⟨k, ab, hk, rfl, rfl, hT, hD, hU, hBr⟩ := hrel
    have hzr := hBr.size
    have hal := hD.le
    replace hU : Hid (∀ j (h : j < M.length), j < k → fitsB M[j].1 M[j].2 kind = false) := hU
    replace hT : Hid (Seg w h (M.take k) ab) := hT
    by_cases hlt : k < M.length
    · have hD0 : Hid (Seg w ab (M.drop k) l) := hD
      rw [List.drop_eq_getElem_cons hlt] at hD
      obtain ⟨c, hac, hp, hv, hD⟩ := hD
      have hcl := hD.le
      replace hD : Hid (Seg w c (M.drop (k + 1)) l) := hD
      have p0 : wr.cell? ⟨ab, 2, none⟩ = some (.pointer (some ⟨c, 0, none⟩)) := (hBr.cell (p := ⟨ab, 2, none⟩) (by show ab < w.heap.size; omega)).trans hp
      have d0 : wr.cell? ⟨c, 0, none⟩ = some (.int .i64 M[k].1) := (hBr.cell (p := ⟨c, 0, none⟩) (by show c < w.heap.size; omega)).trans hv.1
      have d1 : wr.cell? ⟨c, 1, none⟩ = some (.int .i64 M[k].2) := (hBr.cell (p := ⟨c, 1, none⟩) (by show c < w.heap.size; omega)).trans hv.2
      have hTs : Hid (Seg w h (M.take (k + 1)) c) := by
        show Seg w h (M.take (k + 1)) c
        rw [List.take_succ_eq_append_getElem hlt]
        exact hT.out.snoc hac (fun _ _ _ _ => rfl) hp hv
      have hyes : Hid (fitsB M[k].1 M[k].2 kind = true → ∃ hk : k < M.length, fitsB M[k].1 M[k].2 kind = true) := fun h => ⟨hlt, h⟩
      have hno : Hid (fitsB M[k].1 M[k].2 kind = false → ∀ j (h : j < M.length), j < k + 1 → fitsB M[j].1 M[j].2 kind = false) := fun h j hjl hj => by
        by_cases e : j < k
        · exact hU.out j hjl e
        · have : j = k := by omega
          subst this; exact h
      clear hp hv
      generalize hx : M[k].1 = x at *
      generalize hy : M[k].2 = y at *
      replace hx : Hid (M[k].1 = x) := hx
      replace hy : Hid (M[k].2 = y) := hy
      go_wp2_with fail
      refine (implFits_any x y kind _).mono ?_
      rintro e u1 ⟨rfl, hb1⟩
      have hB1 : Below w.heap.size w u1 := hBr.trans (hb1.mono (by omega))
      have p1 : u1.cell? ⟨ab, 2, none⟩ = some (.pointer (some ⟨c, 0, none⟩)) := (hb1.cell (p := ⟨ab, 2, none⟩) (by show ab < wr.heap.size; omega)).trans p0
      clear d0 d1 p0 hb1
      cases hob : fitsB x y kind with
      | true =>
        have hfin : Hid (Aheads w h M l kind (.returned (.tuple #[.pointer (some ⟨ab, 0, none⟩), .int .i64 k]))) := .inl ⟨k, ab, hlt, rfl, hT.out, hD0.out, by rw [hx.out, hy.out]; exact hob, hU.out⟩
        go_wp2_with fail
        exact bodyPost_ret (v := .tuple #[.pointer (some ⟨ab, 0, none⟩), .int .i64 k]) (by simp [results, Try.results54, go_sem]) rfl ⟨hfin.out, hB1⟩
      | false =>
        have hnq := (show Hid _ from hno.out hob)
        go_wp2_with fail
        go_roundw
        case rel => exact ⟨k + 1, c, by omega, by go_num, rfl, hTs.out, hD.out, hnq.out, hB1⟩
        case measure => simp [intOf]; omega
    · have e : k = M.length := by omega
      subst e
      rw [List.drop_length] at hD
      have hD' : ab = l := hD
      subst hD'
      have p0 : wr.cell? ⟨ab, 2, none⟩ = some (.pointer none) := (hBr.cell (p := ⟨ab, 2, none⟩) hlw).trans hn
      have hfin : Hid (Aheads w h M ab kind (.returned (.tuple #[.pointer none, .int .i64 0]))) := .inr ⟨rfl, fun j hj => hU.out j hj hj⟩
      go_wp2_with fail
      exact bodyPost_ret (v := .tuple #[.pointer none, .int .i64 0]) (by simp [results, Try.results54, go_sem]) rfl ⟨hfin.out, hBr⟩
end AH
end Go.Proofs.Ytefaocjcfecipaa
