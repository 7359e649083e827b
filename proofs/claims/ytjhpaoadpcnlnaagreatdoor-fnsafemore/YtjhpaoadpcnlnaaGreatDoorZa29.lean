/-
  Steps that stay safe, apart from any program: with one more at the end, or another one where nobody comes. No condition.
-/
import Derived.Test.YtjhpaoadpcnlnaaGreatDoorZa28
import Derived.Deep.DeepAppendWide
namespace Go.Proofs.YtjhpaoadpcnlnaaGreatDoor
theorem atV_app {V : List Int} {i : Nat} (h : i < V.length) (x : Int) : atV (V ++ [x]) i = atV V i := by
  unfold atV; rw [List.getD_eq_getElem?_getD, List.getD_eq_getElem?_getD, List.getElem?_append_left h]
theorem atV_none {V : List Int} {i : Nat} (h : V.length ≤ i) : atV V i = -1 := by
  unfold atV; rw [List.getD_eq_getElem?_getD, List.getElem?_eq_none h]; rfl
theorem atV_app_ge {V : List Int} {i : Nat} (h : V.length ≤ i) : atV (V ++ [-1]) i = -1 := by
  unfold atV
  rw [List.getD_eq_getElem?_getD, List.getElem?_append_right h]
  by_cases e : i - V.length = 0
  · rw [e]; rfl
  · rw [List.getElem?_eq_none (by simp; omega)]; rfl
theorem atV_take {V : List Int} {n i : Nat} (h : i < n) : atV (V.take n) i = atV V i := by
  unfold atV; rw [List.getD_eq_getElem?_getD, List.getD_eq_getElem?_getD, List.getElem?_take_of_lt h]
theorem safeOf_full {C : List OpV} (h : SafeOf C true) : codeB C = true ∧ ∃ V, IsFull C V ∧ ∀ i, i < C.length → safeP C V i := by
  rcases h with ⟨hC, V, hV, hs⟩ | ⟨_, h⟩
  · exact ⟨hC, V, hV, hs.1 rfl⟩
  · cases h
/-- ways do not mind one more step behind the last, but from a last one that goes on -/
theorem ways_more {o : OpV} {i n : Nat} {x : Int} (h : endsB o.k = true ∨ i + 1 < n) : waysL o i (n + 1) x = waysL o i n x := by
  unfold waysL nextW
  rcases h with h | h
  · have : (o.k == 9 || o.k == 14) = true := h
    simp [this]
  · have h2 : i + 1 < n + 1 := by omega
    simp [h, h2]
theorem ways_sub {o : OpV} {i n : Nat} {x : Int} : ∀ p ∈ waysL o i n x, p ∈ waysL o i (n + 1) x := by
  intro p hp
  unfold waysL at hp ⊢
  rcases List.mem_append.1 hp with h | h
  · refine List.mem_append.2 (.inl ?_)
    unfold nextW at h ⊢
    split at h
    · rename_i hc
      simp only [Bool.and_eq_true, decide_eq_true_eq] at hc
      rw [if_pos (by simp only [Bool.and_eq_true, decide_eq_true_eq]; exact ⟨hc.1, by omega⟩)]; exact h
    · cases h
  · exact List.mem_append.2 (.inr h)
theorem codeB_app {C : List OpV} (hC : codeB C = true) (hl : C.length < 16) {o : OpV} (ho : o.ok = true) (ht : o.t = 0) : codeB (C ++ [o]) = true := by
  have hw := codeB_well hC
  have hU : UptoOk (C ++ [o]) (C ++ [o]).length := fun j hj _ => by
    by_cases e : j < C.length
    · rw [List.getElem_append_left e]
      refine ⟨hw.2.2 j e, ?_⟩
      have := (hw.1.2 j e).2.1
      rw [List.length_append, List.length_singleton]; omega
    · have hj' : j = C.length := by rw [List.length_append, List.length_singleton] at hj; omega
      subst hj'
      rw [List.getElem_append_right (Nat.le_refl _)]
      simp only [Nat.sub_self, List.getElem_cons_zero]
      refine ⟨ho, ?_⟩
      rw [ht, List.length_append, List.length_singleton]; omega
  rw [codeB_all hU, List.length_append, List.length_singleton]
  simp; omega
/-- one more step at the end -/
theorem safe_app {C : List OpV} (h : SafeOf C true) (hl : C.length < 16) {o : OpV} (ho : o.ok = true) (ht : o.t = 0) : SafeOf (C ++ [o]) true := by
  obtain ⟨hC, V, hV, hs⟩ := safeOf_full h
  have hw := (codeB_well hC).1
  have hVl := full_len hV
  have hC' := codeB_app hC hl ho ht
  have hlen : (C ++ [o]).length = C.length + 1 := by simp
  have hget : ∀ i (hi : i < C.length), (C ++ [o])[i]'(by rw [hlen]; omega) = C[i] := fun i hi => List.getElem_append_left hi
  have hlow : ∀ i, i < C.length → atV (V ++ [-1]) i = atV V i := fun i hi => atV_app (by omega) _
  have hhigh : ∀ i, C.length ≤ i → atV (V ++ [-1]) i = -1 := fun i hi => atV_app_ge (by omega)
  have hSol : Sol (C ++ [o]) (V ++ [-1]) := by
    refine ⟨⟨by simp [hVl], fun i => ?_⟩, ?_, fun i hi h0 p hp => ?_⟩
    · by_cases e : i < C.length
      · rw [hlow i e]; exact hV.1.1.2 i
      · rw [hhigh i (by omega)]; exact ⟨by omega, by omega⟩
    · rw [hlow 0 hw.1]; exact hV.1.2.1
    · by_cases e : i < C.length
      · rw [hlow i e] at h0 hp
        rw [hget i e, hlen, ways_more ((hs i e e h0).2)] at hp
        have hb := ways_bd hw e (hV.1.1.2 i) h0 p hp
        rw [hlow p.1 hb.1]
        exact hV.1.2.2 i e h0 p hp
      · rw [hhigh i (by omega)] at h0; omega
  have hTop : Top (C ++ [o]) (V ++ [-1]) := by
    intro u hu i
    by_cases e : i < C.length
    · rw [hlow i e]
      have hu' : Sol C (u.take C.length) := by
        have hul : u.length = C.length + 1 := by rw [hu.1.1, hlen]
        refine ⟨⟨by rw [List.length_take]; omega, fun j => ?_⟩, ?_, fun j hj h0 p hp => ?_⟩
        · by_cases ej : j < C.length
          · rw [atV_take ej]; exact hu.1.2 j
          · rw [atV_none (by rw [List.length_take]; omega)]; exact ⟨by omega, by omega⟩
        · rw [atV_take hw.1]; exact hu.2.1
        · rw [atV_take hj] at h0 hp
          have hb := ways_bd hw hj (hu.1.2 j) h0 p hp
          rw [atV_take hb.1]
          have := hu.2.2 j (by rw [hlen]; omega) h0 p (by rw [hget j hj, hlen]; exact ways_sub p hp)
          exact this
      have := hV.2 _ hu' i
      rw [atV_take e] at this
      exact this
    · rw [hhigh i (by omega)]; exact .inl rfl
  refine safe_yes hC' ⟨hSol, hTop⟩ (fun i hi => ?_)
  by_cases e : i < C.length
  · intro hi' h0
    rw [hlow i e] at h0 ⊢
    obtain ⟨h1, h2⟩ := hs i e e h0
    rw [hget i e]
    exact ⟨h1, h2.imp id (fun h => by rw [hlen]; omega)⟩
  · intro hi' h0
    rw [hhigh i (by omega)] at h0; omega
/-- another step where nobody comes -/
theorem safe_set {C : List OpV} (h : SafeOf C true) {V : List Int} (hV : IsFull C V) {i : Nat} (hn : atV V i < 0) {o : OpV} (ho : o.ok = true) (ht : o.t = 0) : SafeOf (C.set i o) true := by
  obtain ⟨hC, U, hU, hs⟩ := safeOf_full h
  obtain rfl := full_one hV hU
  have hw := (codeB_well hC).1
  have hC' : codeB (C.set i o) = true := codeB_set hC ho (by rw [ht]; have := hw.1; omega)
  have hlen : (C.set i o).length = C.length := List.length_set
  have hget : ∀ j (hj : j < C.length), j ≠ i → (C.set i o)[j]'(by rw [hlen]; exact hj) = C[j] := fun j hj hne => List.getElem_set_ne (Ne.symm hne) _
  have hne : ∀ j, 0 ≤ atV V j → j ≠ i := fun j h0 e => by rw [e] at h0; omega
  have hSol : Sol (C.set i o) V := by
    refine ⟨⟨by rw [hlen]; exact hV.1.1.1, hV.1.1.2⟩, hV.1.2.1, fun j hj h0 p hp => ?_⟩
    rw [hlen] at hj
    rw [hget j hj (hne j h0), hlen] at hp
    exact hV.1.2.2 j hj h0 p hp
  have hTop : Top (C.set i o) V := by
    intro u hu j
    by_cases hj0 : 0 ≤ atV V j
    · have hul : u.length = C.length := by rw [hu.1.1, hlen]
      let u' : List Int := (List.range C.length).map fun m => if 0 ≤ atV V m then atV u m else -1
      have hat : ∀ m, m < C.length → atV u' m = if 0 ≤ atV V m then atV u m else -1 := fun m hm => by
        show atV ((List.range C.length).map fun m => if 0 ≤ atV V m then atV u m else -1) m = _
        unfold atV
        rw [List.getD_eq_getElem?_getD, List.getElem?_map, List.getElem?_range hm]; rfl
      have hul' : u'.length = C.length := by show ((List.range C.length).map _).length = _; simp
      have hV0 : 0 ≤ atV V 0 := le_nn (hV.1.1.2 0) ⟨by omega, by omega⟩ (by omega) hV.1.2.1
      have hu' : Sol C u' := by
        refine ⟨⟨hul', fun m => ?_⟩, ?_, fun m hm h0 p hp => ?_⟩
        · by_cases em : m < C.length
          · rw [hat m em]
            split
            · exact hu.1.2 m
            · exact ⟨by omega, by omega⟩
          · rw [atV_none (by omega)]; exact ⟨by omega, by omega⟩
        · rw [hat 0 hw.1, if_pos hV0]; exact hu.2.1
        · by_cases em : 0 ≤ atV V m
          · rw [hat m hm, if_pos em] at h0 hp
            have hb := ways_bd hw hm (hu.1.2 m) h0 p hp
            have hVp : 0 ≤ atV V p.1 := by
              obtain ⟨q, hq, hq1⟩ := (next_ways C[m] m C.length (atV V m) p.1).1 ((next_ways C[m] m C.length (atV u m) p.1).2 ⟨p, hp, rfl⟩)
              have hb2 := ways_bd hw hm (hV.1.1.2 m) em q hq
              have := hV.1.2.2 m hm em q hq
              rw [hq1] at this
              exact le_nn (hV.1.1.2 p.1) ⟨by omega, hb2.2.2⟩ hb2.2.1 this
            rw [hat p.1 hb.1, if_pos hVp]
            exact hu.2.2 m (by rw [hlen]; exact hm) h0 p (by rw [hget m hm (hne m em), hlen]; exact hp)
          · rw [hat m hm, if_neg em] at h0; omega
      have hjl : j < C.length := by
        by_cases e : j < C.length
        · exact e
        · rw [atV_none (by rw [hV.1.1.1]; omega)] at hj0; omega
      have := hV.2 u' hu' j
      rw [hat j hjl, if_pos hj0] at this
      exact this
    · have hb := hV.1.1.2 j
      have : atV V j = -1 := by have := hb.1; omega
      exact .inl this
  refine safe_yes hC' ⟨hSol, hTop⟩ (fun j hj => ?_)
  rw [hlen] at hj
  intro hj' h0
  obtain ⟨h1, h2⟩ := hs j hj hj h0
  rw [hget j hj (hne j h0)]
  exact ⟨h1, by rw [hlen]; exact h2⟩
theorem opB_move (s : Int) (h0 : 0 ≤ s) (h3 : s ≤ 3) : opB 2 1 s 0 0 0 = true := by
  rcases (by omega : s = 0 ∨ s = 1 ∨ s = 2 ∨ s = 3) with rfl | rfl | rfl | rfl <;> decide
end Go.Proofs.YtjhpaoadpcnlnaaGreatDoor
