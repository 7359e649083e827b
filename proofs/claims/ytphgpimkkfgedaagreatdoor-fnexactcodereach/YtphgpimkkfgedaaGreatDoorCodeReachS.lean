/-
  spec.CodeReach over this translation: the places that are come to, in a row of their own; nothing that was there turns.
-/
import Derived.Test.YtphgpimkkfgedaaGreatDoorCodeNextS
import Derived.Test.YtphgpimkkfgedaaGreatDoorAppendInt
import Derived.Test.YtphgpimkkfgedaaGreatDoorReachOf
namespace Go.Proofs.YtphgpimkkfgedaaGreatDoor
open Go.ChangeShapes Go.WideShapes Go.ChangeAt Go.RowKit Go.Joins
/-- the places of a list, ahead of k, ascending -/
def sortTo (R : List Nat) (k : Nat) : List Nat := (List.range k).filter fun i => R.contains i
theorem sortTo_step (R : List Nat) (k : Nat) : sortTo R (k + 1) = if R.contains k = true then sortTo R k ++ [k] else sortTo R k := by
  unfold sortTo
  rw [List.range_succ, List.filter_append]
  by_cases h : k ∈ R <;> simp [h]
theorem sortTo_len (R : List Nat) (k : Nat) : (sortTo R k).length ≤ k := by
  have := List.length_filter_le (fun i => R.contains i) (List.range k)
  simpa [sortTo] using this
theorem addAll_at (L M : List Nat) (k : Nat) (h : k < M.length) : addAll L (M.take (k + 1)) = addL (addAll L (M.take k)) M[k] := by
  rw [take_step M k h]
  unfold addAll
  rw [List.foldl_append]; rfl
theorem own_ne {w : World} {B : Nat} {v : Value} {L : List Int} (h : Owns w B v L) {b : Nat} (hb : w.heap.size ≤ b) : v.ownBlock ≠ some b := by
  intro e
  have := (World.ownsRow.lt h b e).2
  omega
set_option maxRecDepth 20000 in
set_option maxHeartbeats 8000000 in
theorem specCodeReach_any (C : List OpV) (ao : Option Addr) (cap : Nat) (w : World) (hl : C.length ≤ 1048576) (h : CodeAt w ao C) :
    Calls Tryz.prog 18 #[.slice ao C.length cap] w fun e w' => ∃ v L, e = .returned v ∧ ReachOf C L ∧ Owns w' w.heap.size v L ∧ Below w.heap.size w w' := by
  have hlit : Owns (w.alloc (.cells #[] 3)) w.heap.size (.slice (some ⟨w.heap.size, 0, none⟩) 0 0) [] := by
    have := World.ownsRow_lit (base := w.heap.size) (e := 3) (size := 1) w #[] 0 (by omega) (by decide) rfl
    simpa [Owns] using this
  have hbA : Below w.heap.size w (w.alloc (.cells #[] 3)) := (Below.refl _ _).alloc (Nat.le_refl _) _
  go_enter Tryz.func18, Tryz.ntmps18
  go_wp2_with fail
  refine (specCodeOk_any C ao cap _ hl (h.below hbA)).mono ?_
  rintro e w1 ⟨rfl, hb1⟩
  have hz1 := hb1.size
  simp at hz1
  have hB1 : Below w.heap.size w w1 := hbA.trans (hb1.mono (by simp))
  have hO3 : Owns w1 w.heap.size (.slice (some ⟨w.heap.size, 0, none⟩) 0 0) [] := Owns.below hlit hb1
  have hcode : CodeAt w1 ao C := h.below hB1
  clear hlit hbA hb1
  cases hC : codeB C with
  | false =>
    go_wp2_with fail
    go_ret
    exact ⟨_, [], rfl, .inr ⟨hC, rfl⟩, hO3, hB1⟩
  | true =>
  obtain ⟨hw, hl16, hok⟩ := codeB_well hC
  have hlit4 : Owns (w1.alloc (.cells #[.int .i64 0] 3)) w1.heap.size (.slice (some ⟨w1.heap.size, 0, none⟩) 1 1) (toI [0]) := by
    have := World.ownsRow_lit (base := w1.heap.size) (e := 3) (size := 1) w1 #[.int .i64 0] 1 (by omega) (by decide) rfl
    simpa [Owns, toI] using this
  go_wp2_with fail
  go_loopw [4, 5] (fun v i wr => ∃ (k : Nat) (L : List Nat), k ≤ L.length ∧ i = .int .i64 k ∧ Owns wr w1.heap.size v (toI L) ∧ Gone C L k ∧ Below w1.heap.size w1 wr) (fun _ i _ => C.length - (intOf i).toNat)
  case atStart => exact ⟨0, [0], by simp, rfl, hlit4, gone_start hw, (Below.refl _ _).alloc (Nat.le_refl _) _⟩
  case round =>
    clear hlit4
    obtain ⟨k, L, hk, rfl, ho, hG, hB⟩ := hrel
    have hLl := gone_len hG
    have hzr := hB.size
    obtain ⟨ao4, cap4, rfl, hc4⟩ := Owns.ints ho
    by_cases hlt : k < L.length
    · have hkn : L[k] < C.length := hG.2.2.1 _ (List.getElem_mem hlt)
      rcases hc4 with e | ⟨b, o, rfl, hbl, hc⟩
      · have e2 : (toI L).length = 0 := by rw [e]; rfl
        rw [toI_len] at e2; omega
      have c0 : wr.cell? ⟨b, o + k, none⟩ = some (.int .i64 (L[k] : Int)) := by
        rw [hc k (by rw [toI_len]; exact hlt)]; simp [toI]
      rw [toI_len] at ho ⊢
      have hki : (k : Int) < (L.length : Int) := by omega
      have hstep : Hid (Gone C (addAll L (nextL C[L[k]] L[k] C.length)) (k + 1)) := gone_step hw hG hlt hkn
      have hnl := next_len C[L[k]] L[k] C.length
      have hcall : Hid (Calls Tryz.prog 29 #[.slice ao C.length cap, .int .i64 (L[k] : Int)] wr fun e w' => ∃ v, e = .returned v ∧ Owns w' wr.heap.size v (toI (nextL C[L[k]] L[k] C.length)) ∧ Below wr.heap.size wr w') := l3Next_any C ao cap L[k] wr hl (hcode.below hB) hkn (hw.2 _ hkn).1
      generalize hxe : L[k] = x at *
      generalize nextL C[x] x C.length = M at *
      clear hc hxe
      go_wp2_with fail
      refine hcall.out.mono ?_
      rintro e w2 ⟨v6, rfl, ho6, hb6⟩
      have hz6 := hb6.size
      have ho2 : Owns w2 w1.heap.size (.slice (some ⟨b, o, none⟩) L.length cap4) (toI L) := by
        have := Owns.below (v := .slice (some ⟨b, o, none⟩) L.length cap4) (L := toI L) (w := wr) (w' := w2) (B := w1.heap.size) ho hb6
        exact this
      have hB2 : Below w1.heap.size w1 w2 := hB.trans (hb6.mono (by omega))
      have hge6 : ∀ q, v6.ownBlock = some q → wr.heap.size ≤ q := fun q hq => (World.ownsRow.lt ho6 q hq).1
      obtain ⟨ao6, cap6, rfl, hc6⟩ := Owns.ints ho6
      have hbb : (Value.slice (some ⟨b, o, none⟩) L.length cap4).ownBlock = some b := rfl
      have hblt : b < wr.heap.size := hbl
      clear ho6 hb6 ho hcall
      rw [toI_len]
      generalize hv4 : (Value.slice (some ⟨b, o, none⟩) L.length cap4) = v4 at *
      go_wp2_with fail
      go_loopw [4, 7] (fun v i wy => ∃ j : Nat, j ≤ M.length ∧ i = .int .i64 j ∧ Owns wy w1.heap.size v (toI (addAll L (M.take j))) ∧ Below w1.heap.size w1 wy ∧ w2.heap.size ≤ wy.heap.size ∧ (M = [] ∨ ∃ b6 o6, ao6 = some ⟨b6, o6, none⟩ ∧ b6 < w2.heap.size ∧ v.ownBlock ≠ some b6 ∧ ∀ q (hq : q < M.length), wy.cell? ⟨b6, o6 + q, none⟩ = some (.int .i64 (M[q] : Int)))) (fun _ i _ => M.length - (intOf i).toNat)
      case atStart =>
        refine ⟨0, Nat.zero_le _, rfl, by simpa [addAll] using ho2, hB2, Nat.le_refl _, ?_⟩
        rcases hc6 with e | ⟨b6, o6, rfl, hbl6, hcc⟩
        · have e2 : (toI M).length = 0 := by rw [e]; rfl
          rw [toI_len] at e2
          exact .inl (List.eq_nil_of_length_eq_zero e2)
        · refine .inr ⟨b6, o6, rfl, hbl6, ?_, fun q hq => by rw [hcc q (by rw [toI_len]; exact hq)]; simp [toI]⟩
          have := hge6 b6 rfl
          rw [hbb]
          intro e
          cases e
          omega
      case round =>
        clear ho2 hB2 hc6 hv4 hbb hge6
        obtain ⟨j, hj, rfl, ho, hBy, hzy, hcy⟩ := hrel
        have hal := addAll_len (M.take j) L
        simp only [List.length_take] at hal
        by_cases hjlt : j < M.length
        · rcases hcy with rfl | ⟨b6, o6, rfl, hbl6, hne, hcc⟩
          · exact absurd hjlt (by simp)
          have d0 := hcc j hjlt
          have hji : (j : Int) < (M.length : Int) := by omega
          have hst : Hid (addAll L (M.take (j + 1)) = addL (addAll L (M.take j)) M[j]) := addAll_at L M j hjlt
          generalize hKe : addAll L (M.take j) = K at *
          generalize M[j] = y at *
          have hcc' : Hid (∀ q (hq : q < M.length), wr.cell? ⟨b6, o6 + q, none⟩ = some (.int .i64 (M[q] : Int))) := hcc
          clear hcc hKe
          go_wp2_with fail
          refine (among_any _ (toI K) _ (y : Int) _ (by rw [toI_len]; omega) (Owns.ints ho)).mono ?_
          rintro e wq ⟨rfl, hwq⟩
          rw [hwq, hasI_toI]
          clear hwq
          cases hh : K.contains y with
          | true =>
            have hst2 : Hid (addAll L (M.take (j + 1)) = K) := by
              show addAll L (M.take (j + 1)) = K
              rw [hst.out]; unfold addL; rw [if_pos hh]
            go_wp2_with fail
            go_roundw
            case rel => exact ⟨j + 1, by omega, by go_num, by rw [hst2.out]; exact ho, hBy, hzy, .inr ⟨b6, o6, rfl, hbl6, hne, hcc'.out⟩⟩
            case measure => simp [intOf]; omega
          | false =>
            have hst2 : Hid (addAll L (M.take (j + 1)) = K ++ [y]) := by
              show addAll L (M.take (j + 1)) = K ++ [y]
              rw [hst.out]; unfold addL; rw [if_neg (by rw [hh]; decide)]
            go_wp2_with (refine wpList_append_int _ rfl (.tmp 40) (.tmp 45) rfl ⟨wr.heap.size, 0, none⟩ 1 (y : Int) rfl rfl (World.ownsRow.alloc ho _) (by simp [go_sem]) (by rw [toI_len]; omega) (by simp <;> omega) ?_; intro v7 w7 ho7 hg7 hw7)
            have hz7 := hg7.size
            simp at hz7
            have hB7 : Below w1.heap.size w1 w7 := (hBy.alloc (by omega) _).grown hg7 (by simp <;> omega) (by intro k hk; have := (World.ownsRow.lt ho k hk).1; omega)
            go_roundw
            case rel =>
              refine ⟨j + 1, by omega, by go_num, by rw [hst2.out, toI_app]; exact ho7, hB7, by omega, .inr ⟨b6, o6, rfl, hbl6, ?_, fun q hq => ?_⟩⟩
              · rcases hw7 with e | e
                · rw [e]; exact hne
                · rw [e]; simp; omega
              · refine hg7.cell ?_ (fun e => hne e.symm)
                rw [World.cell?_alloc_past _ _ _ (by omega)]
                exact hcc'.out q hq
            case measure => simp [intOf]; omega
        · have e : j = M.length := by omega
          subst e
          rw [List.take_length] at ho
          obtain ⟨K, hK⟩ := addAll_pre M L
          have hlen : k + 1 ≤ (addAll L M).length := by rw [hK]; simp; omega
          clear hcy hK hal
          go_wp2_with fail
          go_roundw
          case rel => exact ⟨k + 1, addAll L M, hlen, by go_num, ho, hstep.out, hBy⟩
          case measure => simp [intOf]; omega
    · have e : L.length ≤ k := by omega
      have hR := gone_done hG e
      have hke : k = L.length := by omega
      subst hke
      have h0L : 0 ∈ L := hG.2.1
      rcases hc4 with e | ⟨b, o, rfl, hbl, hc⟩
      · have e2 : (toI L).length = 0 := by rw [e]; rfl
        rw [toI_len] at e2
        rw [List.eq_nil_of_length_eq_zero e2] at h0L
        cases h0L
      have hbg : w1.heap.size ≤ b := (World.ownsRow.lt ho b rfl).1
      have hO3' : Owns wr w.heap.size (.slice (some ⟨w.heap.size, 0, none⟩) 0 0) [] := by
        have := World.ownsRow.kept (w' := wr) (row := none) (v := .slice (some ⟨w.heap.size, 0, none⟩) 0 0) hO3 ⟨hB.os, hB.tape, hB.output, hB.size, fun q hq _ => hB.block q (by omega)⟩ (.inr (by simp [Value.ownBlock]))
        exact this
      rw [toI_len] at ho ⊢
      clear ho hG hO3
      obtain ⟨inf, i1, i2, i3, i4⟩ := info_intI
      go_wp2_with fail
      go_loopw [3, 8] (fun v i wz => ∃ q : Nat, q ≤ C.length ∧ i = .int .i64 q ∧ Owns wz w.heap.size v (toI (sortTo L q)) ∧ Below w.heap.size w1 wz ∧ b < wz.heap.size ∧ v.ownBlock ≠ some b ∧ ∀ p (hp : p < (toI L).length), wz.cell? ⟨b, o + p, none⟩ = some (.int .i64 (toI L)[p])) (fun _ i _ => C.length - (intOf i).toNat)
      case atStart => exact ⟨0, Nat.zero_le _, rfl, hO3', hB.mono (by omega), hbl, by simp [Value.ownBlock]; omega, hc⟩
      case round =>
        clear hO3' hc hbl hB hzr
        obtain ⟨q, hq, rfl, ho, hBz, hbl, hne, hc⟩ := hrel
        have hsl := sortTo_len L q
        have hzz := hBz.size
        by_cases hqlt : q < C.length
        · have hI : Ints (b + 1) wr (.slice (some ⟨b, o, none⟩) L.length cap4) (toI L) := ⟨_, cap4, by rw [toI_len], .inr ⟨b, o, rfl, by omega, hc⟩⟩
          have hst : Hid (sortTo L (q + 1) = if L.contains q = true then sortTo L q ++ [q] else sortTo L q) := sortTo_step L q
          generalize hKe : sortTo L q = K at *
          have hc' : Hid (∀ p (hp : p < (toI L).length), wr.cell? ⟨b, o + p, none⟩ = some (.int .i64 (toI L)[p])) := hc
          clear hc hKe
          go_wp2_with fail
          refine (among_any _ (toI L) _ (q : Int) _ (by rw [toI_len]; omega) hI).mono ?_
          rintro e wq ⟨rfl, hwq⟩
          rw [hwq, hasI_toI]
          clear hwq
          cases hh : L.contains q with
          | false =>
            have hst2 : Hid (sortTo L (q + 1) = K) := by show sortTo L (q + 1) = K; rw [hst.out, if_neg (by rw [hh]; decide)]
            go_wp2_with fail
            go_roundw
            case rel => exact ⟨q + 1, by omega, by go_num, by rw [hst2.out]; exact ho, hBz, hbl, hne, hc'.out⟩
            case measure => simp [intOf]; omega
          | true =>
            have hst2 : Hid (sortTo L (q + 1) = K ++ [q]) := by show sortTo L (q + 1) = K ++ [q]; rw [hst.out, if_pos hh]
            go_wp2_with (refine wpList_append_int _ rfl (.tmp 56) (.tmp 58) rfl ⟨wr.heap.size, 0, none⟩ 1 (q : Int) rfl rfl (World.ownsRow.alloc ho _) (by simp [go_sem]) (by rw [toI_len]; omega) (by simp <;> omega) ?_; intro v7 w7 ho7 hg7 hw7)
            have hz7 := hg7.size
            simp at hz7
            have hB7 : Below w.heap.size w1 w7 := (hBz.alloc (by omega) _).grown hg7 (by simp <;> omega) (by intro k hk; have := (World.ownsRow.lt ho k hk).1; omega)
            go_roundw
            case rel =>
              refine ⟨q + 1, by omega, by go_num, by rw [hst2.out, toI_app]; exact ho7, hB7, by omega, ?_, fun p hp => ?_⟩
              · rcases hw7 with e | e
                · rw [e]; exact hne
                · rw [e]; simp; omega
              · refine hg7.cell ?_ (fun e => hne e.symm)
                rw [World.cell?_alloc_past _ _ _ (by omega)]
                exact hc'.out p hp
            case measure => simp [intOf]; omega
        · have e : q = C.length := by omega
          subst e
          go_wp2_with fail
          go_ret
          exact ⟨_, _, rfl, .inl ⟨hC, L, hR, rfl⟩, ho, hB1.trans hBz⟩
end Go.Proofs.YtphgpimkkfgedaaGreatDoor
