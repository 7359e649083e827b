/-
  spec.l3Full and spec.CodeFull over this translation: what is full ahead of each step, in a row of its own; nothing that was there turns.
-/
import Derived.Test.YtphgpimkkfgedaaGreatDoorSpecFrom
import Derived.Test.YtphgpimkkfgedaaGreatDoorCodeOkS
import Derived.Test.YtphgpimkkfgedaaGreatDoorFullOf
import Derived.Deep.LoopGhost
namespace Go.Proofs.YtphgpimkkfgedaaGreatDoor
open Go.ChangeShapes Go.WideShapes Go.ChangeAt Go.RowKit Go.Joins
/-- the first is 0, the others ahead of k are -1 -/
def fillS (n k : Nat) : List Int := 0 :: (List.replicate (k - 1) (-1) ++ List.replicate (n - k) 0)
theorem fillS_len (n k : Nat) (h1 : 1 ≤ k) (h : k ≤ n) : (fillS n k).length = n := by simp [fillS]; omega
theorem fillS_step (n k : Nat) (h1 : 1 ≤ k) (h : k < n) : (fillS n k).set k (-1) = fillS n (k + 1) := by
  unfold fillS
  obtain ⟨j, rfl⟩ : ∃ j, k = j + 1 := ⟨k - 1, by omega⟩
  rw [List.set_cons_succ, Nat.add_sub_cancel, List.set_append_right _ _ (by simp), List.length_replicate, Nat.sub_self, show n - (j + 1) = (n - (j + 1 + 1)) + 1 by omega, List.replicate_succ, List.set_cons_zero, Nat.add_sub_cancel, List.replicate_succ', List.append_assoc]; rfl
theorem fillS_start (n : Nat) (h : 1 ≤ n) : (fillS n n).set 0 1 = startV n := by
  obtain ⟨m, rfl⟩ : ∃ m, n = m + 1 := ⟨n - 1, by omega⟩
  simp [fillS, startV, List.replicate_succ]
theorem fillS_zero (n : Nat) (h : 1 ≤ n) : fillS n 1 = List.replicate n 0 := by
  obtain ⟨m, rfl⟩ : ∃ m, n = m + 1 := ⟨n - 1, by omega⟩
  simp [fillS, List.replicate_succ]
set_option maxRecDepth 20000 in
set_option maxHeartbeats 8000000 in
theorem l3Full_any (C : List OpV) (ao : Option Addr) (cap : Nat) (w : World) (hC : codeB C = true) (h : CodeAt w ao C) :
    Calls Tryz.prog 23 #[.slice ao C.length cap] w fun e w' => ∃ L, e = .returned (.slice (some ⟨w.heap.size, 0, none⟩) C.length C.length) ∧ IsFull C L ∧ Bits w' w.heap.size L ∧ Below w.heap.size w w' := by
  obtain ⟨hw, hl16, hok⟩ := codeB_well hC
  obtain ⟨inf, i1, i2, i3, i4⟩ := info_intI
  have hn1 : 1 ≤ C.length := hw.1
  go_enter Tryz.func23, Tryz.ntmps23
  go_wp2_with (refine wpList_make_full _ rfl (.tmp 8) (.tmp 8) 24 rfl w.heap.size 3 inf _ 1 Tryz.underlying24 i1 i2 i3 .i64 .i64 _ _ C.length rfl rfl rfl rfl (by rw [i4]; omega) (by unfold maxLen; omega) (Nat.le_refl _) ?_; intro w2 ho hg2)
  have hF : Bits w2 w.heap.size (fillS C.length 1) := by
    have e : (madeCells (Value.cells (.int .i64 0)) (C.length * 1)).toList = (fillS C.length 1).map (Value.int .i64) := by
      show (madeCells #[.int .i64 0] (C.length * 1)).toList = _
      rw [toList_madeCells_one, fillS_zero _ hn1]; simp
    rw [e] at ho
    have hfl := fillS_len C.length 1 (Nat.le_refl _) hn1
    unfold Bits
    rw [hfl]
    exact ho
  have hz2 := hg2.size
  have hB2 : Below w.heap.size w w2 := (Below.refl _ _).grown hg2 (by omega) (by intro k hk; cases hk)
  clear ho hg2
  generalize hFe : w.heap.size = F at *
  go_loopw [4] (fun i wr => ∃ k : Nat, 1 ≤ k ∧ k ≤ C.length ∧ i = .int .i64 k ∧ Bits wr F (fillS C.length k) ∧ Below F w2 wr) (fun i _ => C.length - (intOf i).toNat)
  case atStart => exact ⟨1, Nat.le_refl _, hn1, rfl, hF, Below.refl _ _⟩
  case round =>
    clear hF
    obtain ⟨k, hk1, hk, rfl, hF, hB⟩ := hrel
    have hfl := fillS_len C.length k hk1 hk
    by_cases hlt : k < C.length
    · have c0 := hF.cell (i := k) (by rw [hfl]; exact hlt)
      have f0 := hF.free k
      have hF' := hF.set k (-1)
      rw [fillS_step _ _ hk1 hlt] at hF'
      have R : Hid (Bits (wr.setCell ⟨F, k, none⟩ (.int .i64 (-1))) F (fillS C.length (k + 1))) := hF'
      clear hF hF' hfl
      generalize atV (fillS C.length k) k = x0 at *
      go_wp2_with fail
      go_roundw
      case rel => exact ⟨k + 1, by omega, by omega, by go_num, R.out, hB.setCell (by exact Nat.le_refl _) _⟩
      case measure => simp [intOf]; omega
    · have e : k = C.length := by omega
      subst e
      have c0 := hF.cell (i := 0) (by rw [hfl]; omega)
      have f0 := hF.free 0
      have hF0 : Hid (Bits (wr.setCell ⟨F, 0, none⟩ (.int .i64 1)) F (startV C.length)) := by
        show Bits _ _ _
        rw [← fillS_start _ hn1]; exact hF.set 0 1
      obtain ⟨r1, r2, r3⟩ := rnd_start hw
      clear hF hfl
      generalize atV (fillS C.length C.length) 0 = x0 at *
      have hB' : Hid (Below F w2 (wr.setCell ⟨F, 0, none⟩ (.int .i64 1))) := hB.setCell (by exact Nat.le_refl _) _
      go_wp2_with fail
      go_loopg [5] (sumR (startV C.length) + 1) (fun gk s5 wx => ∃ V m, s5 = .bool m ∧ Bits wx F V ∧ Vec C V ∧ Top C V ∧ Le (atV V 0) 1 ∧ (m = false → IsFull C V) ∧ (m = true → sumR V + 1 ≤ gk) ∧ Below F w2 wx)
      case atStart => exact ⟨startV C.length, true, rfl, hF0.out, r1, r2, r3, fun h => (by cases h), fun _ => Nat.le_refl _, hB'.out⟩
      case round =>
        clear hF0 hB r1 r2 r3 hB' c0 f0
        obtain ⟨V, m, rfl, hF, hV, hT, hL1, hdone, hgk, hB⟩ := hrel
        cases m with
        | false =>
          have hd : Hid (IsFull C V) := hdone rfl
          clear hdone hgk
          go_wp2_with fail
          go_ret
          rw [hFe]
          exact ⟨V, rfl, hd.out, hF, hB2.trans (hB.mono (by omega))⟩
        | true =>
          have hgk' := hgk rfl
          clear hdone hgk
          go_wp2_with fail
          go_loopw [5, 6] (fun s5 s6 wy => ∃ (k : Nat) (U : List Int) (m : Bool), k ≤ C.length ∧ s6 = .int .i64 k ∧ s5 = .bool m ∧ Rnd C V U m ∧ (m = false → Upto C k U) ∧ Bits wy F U ∧ Below F w2 wy) (fun _ i _ => C.length - (intOf i).toNat)
          case atStart => exact ⟨0, V, false, Nat.zero_le _, rfl, rfl, ⟨hV, hT, hL1, fun _ => rfl, fun h => by cases h⟩, fun _ j _ h => by omega, hF, hB⟩
          case round =>
            clear hF hV hT hL1 hB
            obtain ⟨k, U, m, hk, rfl, rfl, hR, hU, hF, hB⟩ := hrel
            have hUl : U.length = C.length := hR.1.1
            by_cases hlt : k < C.length
            · have c0 := hF.cell (i := k) (by rw [hUl]; exact hlt)
              have hki : (k : Int) < (C.length : Int) := by omega
              by_cases h0 : 0 ≤ atV U k
              · have hsnd : Hid (∀ p ∈ fromW C[k] k C.length (atV U k), Sound C p) := fun p hp => sound_ways hw hR.1 hR.2.1 hlt h0 p ((fromW_mem _ _ _ _ _).1 hp)
                have hcall : Hid (Calls Tryz.prog 37 #[.slice ao C.length cap, .slice (some ⟨F, 0, none⟩) C.length C.length, .int .i64 k] wr fun e w' =>
                    e = .returned (.bool (foldB U (fromW C[k] k C.length (atV U k)))) ∧ Bits w' F (foldV U (fromW C[k] k C.length (atV U k))) ∧ But F wr w') := l3From_any C ao cap F U k wr hC (h.below (by rw [hFe]; exact hB2.trans hB)) hF hR.1 hlt h0
                have hup : Hid (∀ q ∈ waysL C[k] k C.length (atV U k), q ∈ fromW C[k] k C.length (atV U k)) := fun q hq => (fromW_mem _ _ _ _ _).2 hq
                have hFlt := hF.lt
                generalize hx : atV U k = x at *
                have hx' : Hid (atV U k = x) := hx
                generalize hps : fromW C[k] k C.length x = ps at *
                clear hx hps
                obtain ⟨f1, f2⟩ := rnd_fold ps hR hsnd.out
                have f1' : Hid (Rnd C V (foldV U ps) (foldB U ps || m)) := f1
                have f2' : Hid (foldB U ps = false → foldV U ps = U ∧ ∀ p ∈ ps, Le (atV U p.1) p.2) := f2
                have hU' : Hid (m = false → Upto C k U) := hU
                have hR' : Hid (Rnd C V U m) := hR
                clear f1 f2 hU hR
                go_wp2_with fail
                refine hcall.out.mono ?_
                rintro e w3 ⟨rfl, hF3, bt3⟩
                have hB3 : Below F w2 w3 := hB.trans (bt3.below (Nat.le_refl _) (by omega))
                cases hb : foldB U ps with
                | true =>
                  have hR3 : Hid (Rnd C V (foldV U ps) true) := by have := f1'.out; rw [hb] at this; exact this
                  go_wp2_with fail
                  go_roundw
                  case rel => exact ⟨k + 1, foldV U ps, true, by omega, by go_num, rfl, hR3.out, (fun h => by cases h), hF3, hB3⟩
                  case measure => simp [intOf]; omega
                | false =>
                  obtain ⟨g1, g2⟩ := f2'.out hb
                  rw [g1] at hF3
                  have hn : Hid (m = false → Upto C (k + 1) U) := fun hm j hj hjk h0 q hq => by
                    by_cases e : j < k
                    · exact hU'.out hm j hj e h0 q hq
                    · have : j = k := by omega
                      subst this
                      rw [hx'.out] at hq
                      exact g2 q (hup.out q hq)
                  clear g1 g2
                  go_wp2_with fail
                  go_roundw
                  case rel => exact ⟨k + 1, U, m, by omega, by go_num, rfl, hR'.out, hn.out, hF3, hB3⟩
                  case measure => simp [intOf]; omega
              · have hU' : Hid (m = false → Upto C (k + 1) U) := fun hm j hj hjk hj0 q hq => by
                  by_cases e : j < k
                  · exact hU hm j hj e hj0 q hq
                  · have : j = k := by omega
                    subst this
                    exact absurd hj0 h0
                have hR' : Hid (Rnd C V U m) := hR
                clear hU hR
                generalize atV U k = x at *
                go_wp2_with fail
                go_roundw
                case rel => exact ⟨k + 1, U, m, by omega, by go_num, rfl, hR'.out, hU'.out, hF, hB⟩
                case measure => simp [intOf]; omega
            · have e : k = C.length := by omega
              subst e
              have hd : Hid (m = false → IsFull C U) := fun e => by
                subst e; exact rnd_done hR (hU rfl)
              have hR' : Hid (Rnd C V U m) := hR
              clear hU hR
              go_wp2_with fail
              go_roundg (sumR U + 1 - (if m = true then 0 else 1))
              case measure =>
                have h5 := hR'.out.2.2.2.2
                have h4 := hR'.out.2.2.2.1
                cases m with
                | true => have := h5 rfl; simp; omega
                | false => rw [h4 rfl]; simp; omega
              case rel =>
                exact ⟨U, m, rfl, hF, hR'.out.1, hR'.out.2.1, hR'.out.2.2.1, hd.out, (fun e => by subst e; simp), hB⟩
set_option maxHeartbeats 2000000 in
theorem specCodeFull_any (C : List OpV) (ao : Option Addr) (cap : Nat) (w : World) (hl : C.length ≤ 1048576) (h : CodeAt w ao C) :
    Calls Tryz.prog 8 #[.slice ao C.length cap] w fun e w' => ∃ v L, e = .returned v ∧ FullOf C L ∧ Owns w' w.heap.size v L ∧ Below w.heap.size w w' := by
  go_enter Tryz.func8, Tryz.ntmps8
  go_wp2_with fail
  refine (specCodeOk_any C ao cap _ hl h).mono ?_
  rintro e w1 ⟨rfl, hb1⟩
  have hz1 := hb1.size
  cases hC : codeB C with
  | false =>
    have hlit : Owns (w1.alloc (.cells #[] 3)) w.heap.size (.slice (some ⟨w1.heap.size, 0, none⟩) 0 0) [] := by
      have := World.ownsRow_lit (base := w.heap.size) (e := 3) (size := 1) w1 #[] 0 (by omega) (by decide) rfl
      simpa [Owns] using this
    go_wp2_with fail
    go_ret
    exact ⟨_, [], rfl, .inr ⟨hC, rfl⟩, hlit, hb1.alloc (by omega) _⟩
  | true =>
    go_wp2_with fail
    refine (l3Full_any C ao cap _ hC (h.below hb1)).mono ?_
    rintro e w2 ⟨L, rfl, hL, hF, hb2⟩
    go_wp2_with fail
    go_ret
    refine ⟨_, L, rfl, .inl ⟨hC, hL⟩, ?_, hb1.trans (hb2.mono (by omega))⟩
    have hVl : L.length = C.length := hL.1.1.1
    have hO : Owns w2 w1.heap.size (.slice (some ⟨w1.heap.size, 0, none⟩) L.length L.length) L := hF
    rw [hVl] at hO
    exact Owns.mono hO (by omega)
end Go.Proofs.YtphgpimkkfgedaaGreatDoor
