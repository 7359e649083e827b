/-
  More facts of steps, apart from any program, for the laws that turn one step of drawn steps. No condition.
-/
import Derived.Test.YtjhpaoadpcnlnaaGreatDoorZa25
import Derived.Test.YtjhpaoadpcnlnaaGreatDoorZa02
namespace Go.Proofs.YtjhpaoadpcnlnaaGreatDoor
theorem startV_at {n : Nat} (hn : 0 < n) (i : Nat) : atV (startV n) i = if i = 0 then 1 else -1 := by
  unfold startV
  rw [atV_set _ _ _ _ (by simpa using hn), atV_replicate]
  by_cases h : i = 0
  · simp [h]
  · simp [h, Ne.symm h]
/-- steps of which the first one ends: nobody comes further -/
theorem full_first_end {C : List OpV} (hC : codeB C = true) (h0 : ∀ h : 0 < C.length, C[0].k = 14) : IsFull C (startV C.length) := by
  have hw := (codeB_well hC).1
  obtain ⟨r1, r2, r3⟩ := rnd_start hw
  refine ⟨⟨r1, r3, fun i hi h0' p hp => ?_⟩, r2⟩
  rw [startV_at hw.1] at h0'
  by_cases e : i = 0
  · subst e
    have hk := h0 hi
    simp [waysL, nextW, toW, hk] at hp
  · simp [e] at h0'
theorem codeB_set {C : List OpV} (hC : codeB C = true) {i : Nat} {o : OpV} (ho : o.ok = true) (ht : o.t < C.length) : codeB (C.set i o) = true := by
  have hw := codeB_well hC
  have hU : UptoOk (C.set i o) (C.set i o).length := fun j hj _ => by
    rw [List.length_set] at hj
    rw [List.getElem_set]
    split
    · rw [List.length_set]; exact ⟨ho, ht⟩
    · exact ⟨hw.2.2 j hj, by have h2 := (hw.1.2 j hj).2.1; simpa using h2⟩
  rw [codeB_all hU, List.length_set]
  have := hw.1.1; have := hw.2.1
  simp; omega
theorem set_first {C : List OpV} {o : OpV} (_hC : 0 < C.length) : ∀ h : 0 < (C.set 0 o).length, (C.set 0 o)[0] = o := fun h => by simp
theorem opB_end (r : Int) (h0 : 0 ≤ r) (h3 : r ≤ 3) : opB 14 r 0 0 0 0 = true := by
  rcases (by omega : r = 0 ∨ r = 1 ∨ r = 2 ∨ r = 3) with rfl | rfl | rfl | rfl <;> decide
theorem opB_go0 : opB 9 0 0 0 0 0 = true := by decide
/-- the first step ends, and reads a slot -/
theorem safe_first_end {C : List OpV} (hC : codeB C = true) (r : Int) (h0 : 0 ≤ r) (h3 : r ≤ 3) : SafeOf (C.set 0 ⟨14, r, 0, 0, 0, 0⟩) (decide (r = 0)) := by
  have hw := codeB_well hC
  have hX : codeB (C.set 0 ⟨14, r, 0, 0, 0, 0⟩) = true := codeB_set hC (opB_end r h0 h3) (by have := hw.1.1; show (0 : Int) < _; omega)
  have hF := full_first_end hX (fun h => by rw [set_first hw.1.1 h])
  have hn : 0 < (C.set 0 ⟨14, r, 0, 0, 0, 0⟩).length := by rw [List.length_set]; exact hw.1.1
  have hP0 : safeP (C.set 0 ⟨14, r, 0, 0, 0, 0⟩) (startV (C.set 0 ⟨14, r, 0, 0, 0, 0⟩).length) 0 ↔ r = 0 := by
    unfold safeP
    have hu : usesL 14 r 0 = [r] := by simp [usesL]
    rw [startV_at hn, if_pos rfl]
    constructor
    · intro h
      have := (h hn (by omega)).1 r (by rw [set_first hw.1.1 hn]; show r ∈ usesL 14 r 0; rw [hu]; simp)
      rcases (by omega : r = 0 ∨ r = 1 ∨ r = 2 ∨ r = 3) with rfl | rfl | rfl | rfl
      · rfl
      · exact absurd this (by decide)
      · exact absurd this (by decide)
      · exact absurd this (by decide)
    · intro e h _
      subst e
      rw [set_first hw.1.1 hn]
      refine ⟨fun u hu' => ?_, .inl (by decide)⟩
      have hu'' : u ∈ usesL 14 0 0 := hu'
      rw [hu] at hu''
      rw [List.mem_singleton.1 hu'']; decide
  by_cases e : r = 0
  · rw [decide_eq_true e]
    refine safe_yes hX hF (fun i hi => ?_)
    by_cases hi0 : i = 0
    · subst hi0; exact hP0.2 e
    · intro h hv
      rw [startV_at hn, if_neg hi0] at hv; omega
  · rw [decide_eq_false e]
    exact safe_no hX hF hn (fun h => e (hP0.1 h))
/-- the first step goes to itself, or ends: nobody comes further -/
theorem reach_first_only {C : List OpV} (hC : codeB C = true) (h0 : ∀ h : 0 < C.length, ∀ j ∈ nextL C[0] 0 C.length, j = 0) : ReachOf C [0] := by
  have hw := codeB_well hC
  refine .inl ⟨hC, [0], ⟨⟨by simp, fun i hi hs j hj => ?_⟩, fun T hT i hi hs => ?_⟩, ?_⟩
  · have : i = 0 := by simpa using hs
    subst this
    simp [h0 hi j hj]
  · have : i = 0 := by simpa using hs
    subst this; exact hT.1
  · have : sortR C.length [0] = [0] := by
      unfold sortR
      obtain ⟨m, hm⟩ : ∃ m, C.length = m + 1 := ⟨C.length - 1, by have := hw.1.1; omega⟩
      rw [hm, List.range_succ_eq_map, List.filter_cons, if_pos (by simp), List.filter_eq_nil_iff.2]
      intro a ha
      obtain ⟨b, _, rfl⟩ := List.mem_map.1 ha
      simp
    rw [this]; rfl
theorem reach_set_end {C : List OpV} (hC : codeB C = true) (r : Int) (h0 : 0 ≤ r) (h3 : r ≤ 3) : ReachOf (C.set 0 ⟨14, r, 0, 0, 0, 0⟩) [0] := by
  have hw := codeB_well hC
  refine reach_first_only (codeB_set hC (opB_end r h0 h3) (by have := hw.1.1; show (0 : Int) < _; omega)) (fun h j hj => ?_)
  rw [set_first hw.1.1 h, nk_end rfl] at hj; cases hj
theorem reach_set_go {C : List OpV} (hC : codeB C = true) : ReachOf (C.set 0 ⟨9, 0, 0, 0, 0, 0⟩) [0] := by
  have hw := codeB_well hC
  refine reach_first_only (codeB_set hC opB_go0 (by have := hw.1.1; show (0 : Int) < _; omega)) (fun h j hj => ?_)
  rw [set_first hw.1.1 h, nk_go rfl] at hj
  simpa using hj
theorem reach_last {C : List OpV} {L : List Int} (h : ReachOf C L) (x : Int) (hx : x ∈ L) : 0 ≤ x ∧ x < (C.length : Int) := by
  rcases h with ⟨_, R, _, rfl⟩ | ⟨_, rfl⟩
  · obtain ⟨j, hj, rfl⟩ := List.mem_map.1 hx
    have := (mem_sortR.1 hj).1
    exact ⟨by omega, by omega⟩
  · cases hx
theorem OwnsO.at_ {w : World} {B g n cap : Nat} {C : List OpV} (h : OwnsO w B (.slice (some ⟨g, 0, none⟩) n cap) C) : CodeAt w (some ⟨g, 0, none⟩) C := by
  obtain ⟨ao, cp, hv, hc, _⟩ := h.code
  injection hv with h1
  subst h1; exact hc
theorem ownsO_empty' (w : World) (n : Nat) (hn : w.heap.size = n) : OwnsO (w.alloc (.cells #[] 26)) n (.slice (some ⟨n, 0, none⟩) 0 0) [] := by
  subst hn; exact ownsO_empty w _ (Nat.le_refl _)
end Go.Proofs.YtjhpaoadpcnlnaaGreatDoor
