/-
  For every two values, ok or not, impl.ValAdd answers as the specification's ValAdd does. No condition.
-/
import Derived.Test.YtfgpmbeianbimaaAdd
import Derived.Test.YtfgpmbeianbimaaFrame
import Derived.Deep.DeepCutAuto
import Derived.Deep.RegionHeld3
import Derived.Deep.DrawnRows
namespace Go.Proofs.Ytfgpmbeianbimaa
open Go.ChangeShapes Go.WideShapes Go.ChangeAt Go.RowKit Go.Joins
attribute [local go_sem ↓] Go.wp_at_zero Go.wp_at_succ
namespace ExactValAdd
def addK (k n l m : Int) : Int := if addB k n l m = true then 1 else 0
def addN (k n l m : Int) : Int := if addB k n l m = true then n + m else 0
theorem specAdd_w (k n l m : Int) (w : World) :
    Calls Try.prog 12 #[.agg #[.int .i64 k, .int .i64 n], .agg #[.int .i64 l, .int .i64 m]] w fun e w' => e = .returned (.tuple #[.agg #[.int .i64 (addK k n l m), .int .i64 (addN k n l m)], .bool (addB k n l m)]) ∧ Below w.heap.size w w' := specAdd_any k n l m w
theorem implAdd_w (k n l m : Int) (w : World) :
    Calls Try.prog 13 #[.agg #[.int .i64 k, .int .i64 n], .agg #[.int .i64 l, .int .i64 m]] w fun e w' => e = .returned (.tuple #[.agg #[.int .i64 (addK k n l m), .int .i64 (addN k n l m)], .bool (addB k n l m)]) ∧ Below w.heap.size w w' := implAdd_any k n l m w
set_option maxHeartbeats 400000 in
theorem eqVal_same (k n : Int) (w : World) :
    Calls Try.prog 21 #[.agg #[.int .i64 k, .int .i64 n], .agg #[.int .i64 k, .int .i64 n]] w fun e w' => e = .returned (.bool true) ∧ Below w.heap.size w w' := by
  go_enter Try.func21, Try.ntmps21
  go_wp2_with fail
  go_ret
  exact ⟨rfl, ((Below.refl _ _).alloc (Nat.le_refl _) _).alloc (by simp) _⟩

/-! ### what a region that draws its order keeps: two values in their boxes, and all that lay there -/
theorem lt_alloc_drew (W : World) (o : Obj) : W.heap.size < (W.alloc o).drew.heap.size := by simp
abbrev Two (H : Nat) (W0 : World) (k n l m : Int) (w' : World) : Prop :=
  w'.cell? ⟨H, 0, none⟩ = some (.int .i64 k) ∧ w'.cell? ⟨H, 1, none⟩ = some (.int .i64 n) ∧ w'.cell? ⟨H + 1, 0, none⟩ = some (.int .i64 l) ∧ w'.cell? ⟨H + 1, 1, none⟩ = some (.int .i64 m) ∧ Below W0.heap.size W0 w'
theorem two_drew {H : Nat} {w W : World} {k n l m : Int} (h : Two H w k n l m W) : Two H w k n l m W.drew := by
  obtain ⟨h0, h1, h2, h3, h5⟩ := h
  exact ⟨by simpa [go_sem] using h0, by simpa [go_sem] using h1, by simpa [go_sem] using h2, by simpa [go_sem] using h3, h5.drew⟩
theorem two_below {H : Nat} {w W w1 : World} {k n l m : Int} (hz : H + 1 < w.heap.size) (h : Two H w k n l m W) (hb : Below w.heap.size W w1) : Two H w k n l m w1 := by
  obtain ⟨h0, h1, h2, h3, h5⟩ := h
  have hc : ∀ b o, b < w.heap.size → w1.cell? ⟨b, o, none⟩ = W.cell? ⟨b, o, none⟩ := fun b o hlt => hb.cell (p := ⟨b, o, none⟩) hlt
  exact ⟨by rw [hc _ _ (by omega)]; exact h0, by rw [hc _ _ (by omega)]; exact h1, by rw [hc _ _ (by omega)]; exact h2, by rw [hc _ _ (by omega)]; exact h3, h5.trans hb⟩
theorem two_call {H : Nat} {w W w1 : World} {k n l m : Int} (hz : H + 1 < w.heap.size) (h : Two H w k n l m W) (hb : Below W.heap.size W w1) : Two H w k n l m w1 :=
  two_below hz h (hb.mono h.2.2.2.2.size)
theorem two_alloc {H : Nat} {w W : World} {k n l m : Int} (hz : H + 1 < w.heap.size) (h : Two H w k n l m W) (o : Obj) : Two H w k n l m (W.alloc o) :=
  two_below hz h ((Below.refl _ _).alloc h.2.2.2.2.size _)
theorem two_store2 {H : Nat} {w W : World} {k n l m : Int} {p q : Addr} (hz : H + 1 < w.heap.size) (h : Two H w k n l m W) (hp : w.heap.size ≤ p.block ∧ w.heap.size ≤ q.block) (v u : Value) : Two H w k n l m ((W.setCell p v).setCell q u) :=
  two_below hz h (((Below.refl _ _).setCell hp.1 _).setCell hp.2 _)
theorem pair_cells {w : World} {b : Nat} {u0 u1 : Value} (h0 : w.cell? ⟨b, 0, none⟩ = some u0) (h1 : w.cell? ⟨b, 1, none⟩ = some u1) (v0 v1 : Value) :
    ((w.setCell ⟨b, 0, none⟩ v0).setCell ⟨b, 1, none⟩ v1).cell? ⟨b, 0, none⟩ = some v0 ∧ ((w.setCell ⟨b, 0, none⟩ v0).setCell ⟨b, 1, none⟩ v1).cell? ⟨b, 1, none⟩ = some v1 := by
  constructor
  · simp [go_sem, h0]
  · simp [go_sem, h1]

set_option maxHeartbeats 2000000 in
theorem walk (k n l m : Int) (w : World) :
    Calls Try.prog 9 #[.agg #[.int .i64 k, .int .i64 n], .agg #[.int .i64 l, .int .i64 m]] w fun e w' => e = .returned (.bool true) ∧ Below w.heap.size w w' := by
  go_enter Try.func9, Try.ntmps9
  go_wp2_with fail
  have hB0 : Below w.heap.size w ((w.alloc (.cells #[.int .i64 k, .int .i64 n] 37)).alloc (.cells #[.int .i64 l, .int .i64 m] 37)) := ((Below.refl _ _).alloc (Nat.le_refl _) _).alloc (by simp) _
  have i0 : Two w.heap.size ((w.alloc (.cells #[.int .i64 k, .int .i64 n] 37)).alloc (.cells #[.int .i64 l, .int .i64 m] 37)) k n l m ((w.alloc (.cells #[.int .i64 k, .int .i64 n] 37)).alloc (.cells #[.int .i64 l, .int .i64 m] 37)) :=
    ⟨by simp [go_sem], by simp [go_sem], by simp [go_sem], by simp [go_sem], Below.refl _ _⟩
  have hz0 : w.heap.size + 1 < ((w.alloc (.cells #[.int .i64 k, .int .i64 n] 37)).alloc (.cells #[.int .i64 l, .int .i64 m] 37)).heap.size := by simp
  generalize ((w.alloc (.cells #[.int .i64 k, .int .i64 n] 37)).alloc (.cells #[.int .i64 l, .int .i64 m] 37)) = W at *
  go_cut [5, 6] (fun s5 s6 wc => ∃ b : Nat, s5 = .pointer (some ⟨b, 0, none⟩) ∧ s6 = .bool (addB k n l m) ∧ wc.cell? ⟨b, 0, none⟩ = some (.int .i64 (addK k n l m)) ∧ wc.cell? ⟨b, 1, none⟩ = some (.int .i64 (addN k n l m)) ∧ b < wc.heap.size ∧ Two w.heap.size W k n l m wc)
  case first =>
    go_region_held3 (fun w' => w'.cell? ⟨w.heap.size, 0, none⟩ = some (.int .i64 k) ∧ w'.cell? ⟨w.heap.size, 1, none⟩ = some (.int .i64 n) ∧ w'.cell? ⟨w.heap.size + 1, 0, none⟩ = some (.int .i64 l) ∧ w'.cell? ⟨w.heap.size + 1, 1, none⟩ = some (.int .i64 m) ∧ Below W.heap.size W w')
      (first | exact two_drew (by assumption) | exact two_call hz0 (by assumption) hb1 | exact two_alloc hz0 (by assumption) _ | exact two_store2 hz0 (by assumption) (by dsimp only; omega) _ _)
      (first
        | (go_at_call 20; refine (toVal_any _ _ _).mono ?_; rintro e w1 ⟨rfl, hb1⟩; have hT1 : Two w.heap.size W k n l m w1 := two_call hz0 (by assumption) hb1; have hz1 := hT1.2.2.2.2.size; obtain ⟨hc1, hf1⟩ := bcell hb1; have hm1 := fun (b : Nat) h => Nat.lt_of_lt_of_le (n := b) h hb1.size; first | (refine (fun hg1 : W.heap.size < w1.heap.size => ?_) (hm1 _ (lt_alloc_drew _ _))) | (refine (fun hg1 : W.heap.size < w1.heap.size => ?_) (hm1 _ ?_); rotate_left; assumption) | skip)
        | (go_at_call 12; refine (specAdd_w _ _ _ _ _).mono ?_; rintro e w1 ⟨rfl, hb1⟩; have hT1 : Two w.heap.size W k n l m w1 := two_call hz0 (by assumption) hb1; have hz1 := hT1.2.2.2.2.size; obtain ⟨hc1, hf1⟩ := bcell hb1; have hm1 := fun (b : Nat) h => Nat.lt_of_lt_of_le (n := b) h hb1.size; first | (refine (fun hg1 : W.heap.size < w1.heap.size => ?_) (hm1 _ (lt_alloc_drew _ _))) | (refine (fun hg1 : W.heap.size < w1.heap.size => ?_) (hm1 _ ?_); rotate_left; assumption) | skip))
    all_goals go_wp2_with fail
    all_goals go_meet
    all_goals refine ⟨_, rfl, rfl, ?_, ?_, ?_, by assumption⟩
    all_goals first | (simp [go_sem]; done) | (refine (pair_cells (u0 := .int .i64 0) (u1 := .int .i64 0) ?_ ?_ _ _).1 <;> simp [go_sem, *]; done) | (refine (pair_cells (u0 := .int .i64 0) (u1 := .int .i64 0) ?_ ?_ _ _).2 <;> simp [go_sem, *]; done) | (simp; omega; done) | (simp [*]; done)
  case rest =>
    obtain ⟨b, rfl, rfl, hc0, hc1, hlb, hT⟩ := hcut
    have hzW := hT.2.2.2.2.size
    have hB1 : Below w.heap.size w wc := hB0.trans (hT.2.2.2.2.mono (by omega))
    have j0 : Two w.heap.size wc k n l m wc := ⟨hT.1, hT.2.1, hT.2.2.1, hT.2.2.2.1, Below.refl _ _⟩
    have hz0 : w.heap.size + 1 < wc.heap.size := by omega
    clear hT i0 hB0 hzW
    obtain ⟨wa, hwa⟩ : ∃ x, x = wc := ⟨_, rfl⟩
    subst hwa
    go_wp2_with fail
    go_cut [7, 8] (fun s5 s6 wc => ∃ b : Nat, s5 = .pointer (some ⟨b, 0, none⟩) ∧ s6 = .bool (addB k n l m) ∧ wc.cell? ⟨b, 0, none⟩ = some (.int .i64 (addK k n l m)) ∧ wc.cell? ⟨b, 1, none⟩ = some (.int .i64 (addN k n l m)) ∧ b < wc.heap.size ∧ Two w.heap.size wa k n l m wc)
    case first =>
      go_region_held3 (fun w' => w'.cell? ⟨w.heap.size, 0, none⟩ = some (.int .i64 k) ∧ w'.cell? ⟨w.heap.size, 1, none⟩ = some (.int .i64 n) ∧ w'.cell? ⟨w.heap.size + 1, 0, none⟩ = some (.int .i64 l) ∧ w'.cell? ⟨w.heap.size + 1, 1, none⟩ = some (.int .i64 m) ∧ Below wa.heap.size wa w')
        (first | exact two_drew (by assumption) | exact two_call hz0 (by assumption) hb1 | exact two_alloc hz0 (by assumption) _ | exact two_store2 hz0 (by assumption) (by dsimp only; omega) _ _)
        (first
          | (go_at_call 20; refine (toVal_any _ _ _).mono ?_; rintro e w1 ⟨rfl, hb1⟩; have hT1 : Two w.heap.size wa k n l m w1 := two_call hz0 (by assumption) hb1; have hz1 := hT1.2.2.2.2.size; obtain ⟨hc1, hf1⟩ := bcell hb1; have hm1 := fun (b : Nat) h => Nat.lt_of_lt_of_le (n := b) h hb1.size; first | (refine (fun hg1 : wa.heap.size < w1.heap.size => ?_) (hm1 _ (lt_alloc_drew _ _))) | (refine (fun hg1 : wa.heap.size < w1.heap.size => ?_) (hm1 _ ?_); rotate_left; assumption) | skip)
          | (go_at_call 13; refine (implAdd_w _ _ _ _ _).mono ?_; rintro e w1 ⟨rfl, hb1⟩; have hT1 : Two w.heap.size wa k n l m w1 := two_call hz0 (by assumption) hb1; have hz1 := hT1.2.2.2.2.size; obtain ⟨hc1, hf1⟩ := bcell hb1; have hm1 := fun (b : Nat) h => Nat.lt_of_lt_of_le (n := b) h hb1.size; first | (refine (fun hg1 : wa.heap.size < w1.heap.size => ?_) (hm1 _ (lt_alloc_drew _ _))) | (refine (fun hg1 : wa.heap.size < w1.heap.size => ?_) (hm1 _ ?_); rotate_left; assumption) | skip))
      all_goals go_wp2_with fail
      all_goals go_meet
      all_goals refine ⟨_, rfl, rfl, ?_, ?_, ?_, by assumption⟩
      all_goals first | (simp [go_sem]; done) | (refine (pair_cells (u0 := .int .i64 0) (u1 := .int .i64 0) ?_ ?_ _ _).1 <;> simp [go_sem, *]; done) | (refine (pair_cells (u0 := .int .i64 0) (u1 := .int .i64 0) ?_ ?_ _ _).2 <;> simp [go_sem, *]; done) | (simp; omega; done) | (simp [*]; done)
    case rest =>
      obtain ⟨d, rfl, rfl, hd0, hd1, hld, hT⟩ := hcut
      have hB2 : Below w.heap.size w wc := hB1.trans (hT.2.2.2.2.mono (by omega))
      have he0 : wc.cell? ⟨b, 0, none⟩ = some (.int .i64 (addK k n l m)) := by rw [hT.2.2.2.2.cell (p := ⟨b, 0, none⟩) hlb]; exact hc0
      have he1 : wc.cell? ⟨b, 1, none⟩ = some (.int .i64 (addN k n l m)) := by rw [hT.2.2.2.2.cell (p := ⟨b, 1, none⟩) hlb]; exact hc1
      have hzz := hT.2.2.2.2.size
      clear hT j0 hB1 hc0 hc1
      go_wp2_with fail
      refine (eqVal_same _ _ _).mono ?_
      rintro e w5 ⟨rfl, hb5⟩
      go_wp2_with fail
      go_ret
      exact ⟨rfl, hB2.trans (hb5.mono (by omega))⟩

set_option maxRecDepth 100000 in
theorem lifted (os : Os) (started : os.Started) (H : Type) (enc : TypeId × Value → H) :
    ReturnsInHanded {} Try.checked os 9 .any (Rows.fnExactValAddSpec.pre6 enc Try.prog Try.f9 Rows.fnExactValAddRow.domain false) (Rows.fnExactValAddSpec.post enc Try.prog Try.f9 false true false false) := by
  refine returnsInHanded_of_change (C := Try.checked) own started (by kernel_rfl) Try.func9
    (ChangeSpec.witness6 (enc := enc) (C := Try.checked) false ⟨#[], #[.agg #[.int .i64 0, .int .i64 0], .agg #[.int .i64 0, .int .i64 0]], []⟩ 8 (by kernel_rfl) (by kernel_rfl) (by kernel_rfl) (by kernel_rfl)) ?_
  intro W base args ds gs before hval0 hW hcnd _
  have hval : ∀ (j : Nat) t v, Try.f9.params[j]? = some t → args[j]? = some v → Value.okWide Try.prog W .any base t v := hval0
  have hW' := hW
  obtain ⟨p, q, hA0, hV, rfl, hfz, hnd⟩ := hW
  have hA : DataW.TrodAll enc Try.prog W 0 (fun _ => true) true Try.f9.params.toList args.toList ds p := hA0
  rw [Try.params9] at hA hval
  obtain ⟨v0, vs0, d0, ds0, p0, q0, hargs, rfl, rfl, h0, r0⟩ := trodAll_cons hA
  obtain ⟨v1, vs1, d1, ds1, p1, q1, rfl, rfl, rfl, h1, r1⟩ := trodAll_cons r0
  obtain ⟨rfl, rfl, rfl⟩ := trodAll_nil r1
  obtain rfl : args = #[v0, v1] := by cases args; simp_all
  obtain ⟨rfl, rfl⟩ := trodVars_none hV
  obtain ⟨c0, b0, y0, z0, m0, rfl, rfl, rfl, hy0, hz0⟩ := open_agg2 Try.underlying37 (by kernel_rfl) cells37 (hval 0 37 v0 rfl rfl) h0
  obtain ⟨k0, e0, rfl, wk0⟩ := DataW.trod_int Try.underlying3 hy0
  obtain ⟨n0, g0, rfl, wn0⟩ := DataW.trod_int Try.underlying3 hz0
  simp at e0 g0
  subst e0 g0
  obtain ⟨c1, b1, y1, z1, m1, rfl, rfl, rfl, hy1, hz1⟩ := open_agg2 Try.underlying37 (by kernel_rfl) cells37 (hval 1 37 v1 rfl rfl) h1
  obtain ⟨k1, e1, rfl, wk1⟩ := DataW.trod_int Try.underlying3 hy1
  obtain ⟨n1, g1, rfl, wn1⟩ := DataW.trod_int Try.underlying3 hz1
  simp at e1 g1
  subst e1 g1
  clear hA0 hval0
  simp only [List.append_nil] at hW'
  refine (walk k0 n0 k1 n1 W).mono fun e W' ⟨he, bel⟩ => ?_
  subst he
  exact ⟨_, rfl, _, _, _, [], _, [], hW', trodAll_mk1 (shut_bool Try.underlying4 _), (trodAll_cons_mk (agg37 enc k0 n0 wk0 wn0 _ _ _) (trodAll_cons_mk (agg37 enc k1 n1 wk1 wn1 _ _ _) trodAll_mk0)), rfl, bel.frame _, fun h => by cases h⟩

theorem over : Rows.fnExactValAddRow.holds Try.pinned (OpenSpec.ofChange Rows.fnExactValAddSpec) :=
  OpenClaim.holds_of_wide 9 Try.f9 rfl rfl rfl rfl rfl rfl rfl ⟨rfl, rfl, rfl, rfl, rfl⟩ rfl rfl rfl rfl rfl (by kernel_rfl) Try.func9 (by kernel_rfl)
    (of_decide_eq_true (by kernel_rfl)) (by unfold Func.isWrapper; first | (rw [if_pos (by decide +kernel)]; kernel_rfl) | (rw [if_neg (by decide +kernel)]; exact ⟨rfl, rfl⟩))
    (fun os started H enc _ => lifted os started H enc)
end ExactValAdd

/-- the given statement -/
theorem exactValAdd_holds : Rows.FnExactValAddSaid := ExactValAdd.over
#print axioms exactValAdd_holds
end Go.Proofs.Ytfgpmbeianbimaa
