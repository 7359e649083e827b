/-
  impl.CodeSafe over this translation: whether steps are safe; nothing that was there turns.
-/
import Derived.Test.YtphgpimkkfgedaaGreatDoorSafeOf
import Derived.Test.YtphgpimkkfgedaaGreatDoorCodeFullI
import Derived.Test.YtphgpimkkfgedaaGreatDoorOpImplUses
namespace Go.Proofs.YtphgpimkkfgedaaGreatDoor
open Go.ChangeShapes Go.WideShapes Go.ChangeAt Go.RowKit Go.Joins
set_option maxHeartbeats 2000000 in
theorem reads_any (x : OpV) (w : World) (hok : x.ok = true) : Calls Tryz.prog 45 #[x.val] w fun e w' => e = .returned (.int .i64 (foldO (usesL x.k x.r x.s))) ∧ Below w.heap.size w w' := by
  have oi := opIs_of hok
  have hub := uses_bd (k := x.k) ⟨oi.r1, oi.r2⟩ ⟨oi.s1, oi.s2⟩
  have hul := uses_len x.k x.r x.s
  go_enter Tryz.func45, Tryz.ntmps45
  go_wp2_with fail
  refine (implUses_any x.k x.r x.s x.t x.a x.b _).mono ?_
  rintro e w1 ⟨v, rfl, ho, hb1⟩
  rw [usesOf_ok hok] at ho
  have hB1 : Below w.heap.size w w1 := ((Below.refl _ _).alloc (Nat.le_refl _) _).trans (hb1.mono (by simp))
  obtain ⟨ao, cap, rfl, hc⟩ := Owns.ints ho
  generalize hLe : usesL x.k x.r x.s = L at *
  have hLe' : Hid (usesL x.k x.r x.s = L) := hLe
  clear ho hb1 hLe
  go_wp2_with fail
  go_loopw [3, 9] (fun y i wr => ∃ k : Nat, k ≤ L.length ∧ i = .int .i64 k ∧ y = .int .i64 (foldO (L.take k)) ∧ wr = w1) (fun _ i _ => L.length - (intOf i).toNat)
  case atStart => exact ⟨0, Nat.zero_le _, rfl, rfl, rfl⟩
  case round =>
    obtain ⟨k, hk, rfl, rfl, hwr⟩ := hrel
    have hfb := foldO_bd (L.take k)
    by_cases hlt : k < L.length
    · rcases hc with rfl | ⟨b, o, rfl, _, hcc⟩
      · exact absurd hlt (by simp)
      have c0 : wr.cell? ⟨b, o + k, none⟩ = some (.int .i64 L[k]) := by rw [hwr]; exact hcc k hlt
      have hu := hub L[k] (List.getElem_mem hlt)
      have hst : Hid (foldO (L.take (k + 1)) = orB (foldO (L.take k)) (bitOf L[k])) := foldO_take L k hlt
      have hbb := bit_bd L[k]
      have hor := or_i64 (x := foldO (L.take k)) (y := bitOf L[k]) ⟨by omega, hfb.2⟩ hfb.1 hbb.1 hbb.2
      have hwr' : Hid (wr = w1) := hwr
      generalize foldO (L.take k) = y at *
      generalize L[k] = u at *
      clear hcc hwr
      go_wp2_with fail
      refine (slotBit_any u _ hu.1 hu.2).mono ?_
      rintro e wq ⟨rfl, hwq⟩
      rw [hwq]
      clear hwq
      go_wp2_with fail
      go_roundw
      case rel => exact ⟨k + 1, by omega, by go_num, by rw [hst.out], hwr'.out⟩
      case measure => simp [intOf]; omega
    · have e : k = L.length := by omega
      subst e
      rw [List.take_length]
      have hwr' : Hid (wr = w1) := hwr
      clear hwr
      go_wp2_with fail
      go_ret
      exact ⟨by rw [hLe'.out]; rfl, by rw [hwr'.out]; exact hB1⟩
set_option maxHeartbeats 2000000 in
theorem safeAt_any (C : List OpV) (ao : Option Addr) (cap i : Nat) (full : Int) (w : World) (hC : codeB C = true) (h : CodeAt w ao C) (hi : i < C.length) (hf : Bd full) (hf0 : 0 ≤ full) :
    Calls Tryz.prog 34 #[.slice ao C.length cap, .int .i64 i, .int .i64 full] w fun e w' => e = .returned (.bool ((usesL C[i].k C[i].r C[i].s).all (hasB full) && (endsB C[i].k || decide (i + 1 < C.length)))) ∧ Below w.heap.size w w' := by
  obtain ⟨hw, hl, hok⟩ := codeB_well hC
  rcases h with rfl | ⟨b, o, rfl, hlt, hs⟩
  · exact absurd hi (by simp)
  have hoki := hok i hi
  have oi := opIs_of hoki
  have s := hs i hi
  obtain ⟨x, hx0⟩ : ∃ x, x = C[i] := ⟨_, rfl⟩
  rw [← hx0] at s oi hoki ⊢
  clear hx0 hs hok
  obtain ⟨c0, c1, c2, c3, c4, c5⟩ := s
  have han := andNot_uses hf hf0 (usesL x.k x.r x.s) (uses_len _ _ _) (uses_bd ⟨oi.r1, oi.r2⟩ ⟨oi.s1, oi.s2⟩)
  go_enter Tryz.func34, Tryz.ntmps34
  go_wp2_with fail
  refine (reads_any x _ hoki).mono ?_
  rintro e w1 ⟨rfl, hb1⟩
  obtain ⟨hc1, _⟩ := bcell hb1
  have d0 : w1.cell? ⟨w.heap.size, 0, none⟩ = some (.int .i64 x.k) := by rw [hc1 _ _ (by simp)]; simp [go_sem]
  have d1 : w1.cell? ⟨w.heap.size, 1, none⟩ = some (.int .i64 x.r) := by rw [hc1 _ _ (by simp)]; simp [go_sem]
  have d2 : w1.cell? ⟨w.heap.size, 2, none⟩ = some (.int .i64 x.s) := by rw [hc1 _ _ (by simp)]; simp [go_sem]
  have d3 : w1.cell? ⟨w.heap.size, 3, none⟩ = some (.int .i64 x.t) := by rw [hc1 _ _ (by simp)]; simp [go_sem]
  have d4 : w1.cell? ⟨w.heap.size, 4, none⟩ = some (.int .i64 x.a) := by rw [hc1 _ _ (by simp)]; simp [go_sem]
  have d5 : w1.cell? ⟨w.heap.size, 5, none⟩ = some (.int .i64 x.b) := by rw [hc1 _ _ (by simp)]; simp [go_sem]
  have hz1 := hb1.size
  simp at hz1
  have hB1 : Below w.heap.size w w1 := ((Below.refl _ _).alloc (Nat.le_refl _) _).trans (hb1.mono (by simp))
  clear hc1 hb1 c0 c1 c2 c3 c4 c5
  generalize hae : (usesL x.k x.r x.s).all (hasB full) = A at *
  have hae' : Hid ((usesL x.k x.r x.s).all (hasB full) = A) := hae
  generalize foldO (usesL x.k x.r x.s) = R at *
  clear hae
  cases A with
  | false =>
    go_wp2_with fail
    go_ret
    exact ⟨by rw [hae'.out]; rfl, hB1⟩
  | true =>
    go_wp2_with fail
    refine (goesOrEnds_any x _).mono ?_
    rintro e w2 ⟨rfl, hb2⟩
    have hB2 : Below w.heap.size w w2 := hB1.trans (hb2.mono (by omega))
    cases he : endsB x.k with
    | true =>
      go_wp2_with fail
      go_ret
      exact ⟨by rw [hae'.out, he]; rfl, hB2⟩
    | false =>
      have e1 : Hid (decide ((i : Int) + 1 < (C.length : Int)) = decide (i + 1 < C.length)) := by show _ = _; congr 1; simp; omega
      go_wp2_with fail
      go_ret
      refine ⟨?_, hB2⟩
      rw [hae'.out, he]
      simp
      omega
set_option maxHeartbeats 4000000 in
theorem implCodeSafe_any (C : List OpV) (ao : Option Addr) (cap : Nat) (w : World) (hl : C.length ≤ 1048576) (h : CodeAt w ao C) :
    Calls Tryz.prog 21 #[.slice ao C.length cap] w fun e w' => ∃ b, e = .returned (.bool b) ∧ SafeOf C b ∧ Below w.heap.size w w' := by
  go_enter Tryz.func21, Tryz.ntmps21
  go_wp2_with fail
  refine (implCodeFull_any C ao cap _ hl h).mono ?_
  rintro e w1 ⟨v1, V, rfl, hV, hO, hb1⟩
  have hVl := fullOf_len hV
  have hz1 := hb1.size
  obtain ⟨ao1, cap1, rfl, hcells⟩ := Owns.ints hO
  have hcode := h.below hb1
  clear hO
  go_wp2_with fail
  go_loopw [8] (fun i wr => ∃ k : Nat, k ≤ V.length ∧ i = .int .i64 k ∧ Below w1.heap.size w1 wr ∧ ∀ j, j < k → safeP C V j) (fun i _ => V.length - (intOf i).toNat)
  case atStart => exact ⟨0, Nat.zero_le _, rfl, Below.refl _ _, fun j hj => by omega⟩
  case round =>
    obtain ⟨k, hk, rfl, hB, hU⟩ := hrel
    have hzr := hB.size
    by_cases hlt : k < V.length
    · rcases hV with ⟨hC, hF⟩ | ⟨hC, rfl⟩
      · have hkl : k < C.length := by omega
        rcases hcells with rfl | ⟨b, o, rfl, hbl, hc⟩
        · exact absurd hlt (by simp)
        have c0 : wr.cell? ⟨b, o + k, none⟩ = some (.int .i64 (atV V k)) := by
          rw [hB.cell (p := ⟨b, o + k, none⟩) hbl, hc k hlt]
          simp [atV, List.getD_eq_getElem?_getD, List.getElem?_eq_getElem hlt]
        have hbd := hF.1.1.2 k
        have hbd1 := hbd.1
        have hP : Hid (safeP C V k ↔ ((0 ≤ atV V k) → ((usesL C[k].k C[k].r C[k].s).all (hasB (atV V k)) && (endsB C[k].k || decide (k + 1 < C.length))) = true)) := by
          show _ ↔ _
          unfold safeP
          constructor
          · intro hh h0; have := hh hkl h0; simp; exact ⟨fun u hu => this.1 u hu, this.2⟩
          · intro hh _ h0; have := hh h0; simp at this; exact ⟨this.1, this.2⟩
        have hcall := fun h0 => safeAt_any C ao cap k (atV V k) wr hC (hcode.below hB) hkl hbd h0
        generalize ((usesL C[k].k C[k].r C[k].s).all (hasB (atV V k)) && (endsB C[k].k || decide (k + 1 < C.length))) = A at *
        generalize atV V k = x at *
        clear hc
        by_cases hx : x = -1
        · have hx' : (x != -1) = false := by simp [hx]
          have hn : Hid (∀ j, j < k + 1 → safeP C V j) := fun j hj => by
            by_cases e : j < k
            · exact hU j e
            · have : j = k := by omega
              subst this
              exact hP.out.2 fun h0 => by omega
          clear hx hU hcall
          go_wp2_with fail
          go_roundw
          case rel => exact ⟨k + 1, by omega, by go_num, hB, hn.out⟩
          case measure => simp [intOf]; omega
        · have hx' : (x != -1) = true := by simp [hx]
          have h0 : 0 ≤ x := by omega
          have hcall' := hcall h0
          have hU' : Hid (∀ j, j < k → safeP C V j) := hU
          clear hx hcall hU
          go_wp2_with fail
          refine hcall'.mono ?_
          rintro e w2 ⟨rfl, hb2⟩
          have hB2 : Below w1.heap.size w1 w2 := hB.trans (hb2.mono hzr)
          clear hcall'
          cases A with
          | true =>
            have hn : Hid (∀ j, j < k + 1 → safeP C V j) := fun j hj => by
              by_cases e : j < k
              · exact hU'.out j e
              · have : j = k := by omega
                subst this
                exact hP.out.2 fun _ => rfl
            go_wp2_with fail
            go_roundw
            case rel => exact ⟨k + 1, by omega, by go_num, hB2, hn.out⟩
            case measure => simp [intOf]; omega
          | false =>
            go_wp2_with fail
            go_ret
            exact ⟨false, rfl, safe_no hC hF hkl (fun hh => absurd (hP.out.1 hh h0) (by decide)), hb1.trans (hB2.mono (by omega))⟩
      · exact absurd hlt (by simp)
    · have e : k = V.length := by omega
      subst e
      go_wp2_with fail
      refine (implCodeOk_any C ao cap _ hl (hcode.below hB)).mono ?_
      rintro e w2 ⟨rfl, hb2⟩
      go_wp2_with fail
      go_ret
      refine ⟨_, rfl, ?_, hb1.trans ((hB.mono (by omega)).trans (hb2.mono (by omega)))⟩
      rcases hV with ⟨hC, hF⟩ | ⟨hC, rfl⟩
      · rw [hC]
        exact safe_yes hC hF (fun i hi => hU i (by rw [show V.length = C.length from hF.1.1.1]; exact hi))
      · rw [hC]; exact .inr ⟨hC, rfl⟩
end Go.Proofs.YtphgpimkkfgedaaGreatDoor
