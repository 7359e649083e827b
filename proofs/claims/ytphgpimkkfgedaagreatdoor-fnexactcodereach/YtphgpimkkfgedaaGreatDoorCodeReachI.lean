/-
  impl.CodeReach over this translation: the places that are come to, in a row of their own; nothing that was there turns.
-/
import Derived.Test.YtphgpimkkfgedaaGreatDoorCodeFullI
import Derived.Test.YtphgpimkkfgedaaGreatDoorReachOf
namespace Go.Proofs.YtphgpimkkfgedaaGreatDoor
open Go.ChangeShapes Go.WideShapes Go.ChangeAt Go.RowKit Go.Joins
set_option maxHeartbeats 4000000 in
theorem implCodeReach_any (C : List OpV) (ao : Option Addr) (cap : Nat) (w : World) (hl : C.length ≤ 1048576) (h : CodeAt w ao C) :
    Calls Tryz.prog 19 #[.slice ao C.length cap] w fun e w' => ∃ v L, e = .returned v ∧ ReachOf C L ∧ Owns w' w.heap.size v L ∧ Below w.heap.size w w' := by
  obtain ⟨inf, i1, i2, i3, i4⟩ := info_intI
  go_enter Tryz.func19, Tryz.ntmps19
  go_wp2_with fail
  refine (implCodeFull_any C ao cap _ hl h).mono ?_
  rintro e w1 ⟨v1, V, rfl, hV, hO, hb1⟩
  have hVl := fullOf_len hV
  have hz1 := hb1.size
  obtain ⟨ao1, cap1, rfl, hcells⟩ := Owns.ints hO
  clear hO
  go_wp2_with fail
  go_loopw [3, 9] (fun v i wr => ∃ k : Nat, k ≤ V.length ∧ i = .int .i64 k ∧ Owns wr w1.heap.size v (toI (fullTo V k)) ∧ Below w1.heap.size w1 wr) (fun _ i _ => V.length - (intOf i).toNat)
  case atStart => exact ⟨0, Nat.zero_le _, rfl, ⟨rfl, .inl ⟨rfl, rfl⟩⟩, Below.refl _ _⟩
  case round =>
    obtain ⟨k, hk, rfl, ho, hB⟩ := hrel
    by_cases hlt : k < V.length
    · rcases hcells with rfl | ⟨b, o, rfl, hbl, hc⟩
      · exact absurd hlt (by simp)
      have c0 : wr.cell? ⟨b, o + k, none⟩ = some (.int .i64 (atV V k)) := by
        rw [hB.cell (p := ⟨b, o + k, none⟩) hbl, hc k hlt]
        simp [atV, List.getD_eq_getElem?_getD, List.getElem?_eq_getElem hlt]
      have hst : Hid (fullTo V (k + 1) = if atV V k = -1 then fullTo V k else fullTo V k ++ [k]) := fullTo_step V k
      have hfl := fullTo_len V k
      have hzr := hB.size
      generalize atV V k = x at *
      generalize hM : fullTo V k = M at *
      clear hM hc
      by_cases hx : x = -1
      · have hx' : (x != -1) = false := by simp [hx]
        have hst2 : Hid (fullTo V (k + 1) = M) := by show fullTo V (k + 1) = M; rw [hst.out, if_pos hx]
        clear hx
        go_wp2_with fail
        go_roundw
        case rel => exact ⟨k + 1, by omega, by go_num, by rw [hst2.out]; exact ho, hB⟩
        case measure => simp [intOf]; omega
      · have hx' : (x != -1) = true := by simp [hx]
        have hst2 : Hid (fullTo V (k + 1) = M ++ [k]) := by show fullTo V (k + 1) = M ++ [k]; rw [hst.out, if_neg hx]
        clear hx
        go_wp2_with (refine wpList_append_own _ rfl (.tmp 16) (.tmp 18) 24 rfl w1.heap.size 3 inf (.int .i64 0) 1 8 Tryz.underlying24 i1 i2 i3 i4 rfl (by decide) _ _ _ rfl (World.ownsRow.alloc ho _) ⟨wr.heap.size, 0, none⟩ 1 1 [.int .i64 (k : Int)] rfl rfl (by intro q u hq; cases q with | zero => simp at hq; subst hq; simp [Addr.add, go_sem] | succ q => simp at hq) (by simp [Value.oneCell']) (by rw [toI_len]; unfold maxLen; omega) (by rw [toI_len]; omega) (by simp <;> omega) ?_; intro x0 w4 ho0 hg0 _)
        have hB4 : Below w1.heap.size w1 w4 := (hB.alloc (by omega) _).grown hg0 (by simp <;> omega) (by intro k hk; have := (World.ownsRow.lt ho k hk).1; omega)
        go_roundw
        case rel => exact ⟨k + 1, by omega, by go_num, by rw [hst2.out]; simpa [Owns, toI] using ho0, hB4⟩
        case measure => simp [intOf]; omega
    · have e : k = V.length := by omega
      subst e
      go_wp2_with fail
      go_ret
      refine ⟨_, toI (fullTo V V.length), rfl, ?_, Owns.mono ho (by omega), hb1.trans (hB.mono (by omega))⟩
      rcases hV with ⟨hC, hF⟩ | ⟨hC, rfl⟩
      · rw [show V.length = C.length from hF.1.1.1]; exact full_reachOf hC hF
      · exact .inr ⟨hC, rfl⟩
end Go.Proofs.YtphgpimkkfgedaaGreatDoor
