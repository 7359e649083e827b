/-
  spec.l3From over this translation: the ways out of a place are merged, first To, then the next place; nothing else turns.
-/
import Derived.Test.YtphgpimkkfgedaaGreatDoorSpecBits
import Derived.Test.YtphgpimkkfgedaaGreatDoorCodeAt
namespace Go.Proofs.YtphgpimkkfgedaaGreatDoor
open Go.ChangeShapes Go.WideShapes Go.ChangeAt Go.RowKit Go.Joins
def foldV (V : List Int) : List (Nat × Int) → List Int
  | [] => V
  | p :: ps => foldV (mergeV V p) ps
def foldB (V : List Int) : List (Nat × Int) → Bool
  | [] => false
  | p :: ps => foldB (mergeV V p) ps || mergeB V p
theorem rnd_fold {C : List OpV} {u : List Int} : ∀ (ps : List (Nat × Int)) {v : List Int} {m : Bool}, Rnd C u v m → (∀ p ∈ ps, Sound C p) →
    Rnd C u (foldV v ps) (foldB v ps || m) ∧ (foldB v ps = false → foldV v ps = v ∧ ∀ p ∈ ps, Le (atV v p.1) p.2)
  | [], v, m, h, _ => ⟨by simpa [foldV, foldB] using h, fun _ => ⟨rfl, fun p hp => by cases hp⟩⟩
  | p :: ps, v, m, h, hs => by
    obtain ⟨h1, h2⟩ := rnd_merge h (hs p (by simp))
    obtain ⟨k1, k2⟩ := rnd_fold ps h1 (fun q hq => hs q (by simp [hq]))
    refine ⟨?_, fun e => ?_⟩
    · simp only [foldV, foldB, Bool.or_assoc]
      exact k1
    · simp only [foldB, Bool.or_eq_false_iff] at e
      obtain ⟨a1, a2⟩ := k2 e.1
      obtain ⟨b1, b2⟩ := h2 e.2
      refine ⟨by simp only [foldV]; rw [a1, b1], fun q hq => ?_⟩
      rcases List.mem_cons.1 hq with rfl | hq
      · exact b2
      · have := a2 q hq; rwa [b1] at this
theorem merge_vec {C : List OpV} {v : List Int} (hv : Vec C v) {p : Nat × Int} (h1 : p.1 < C.length) (h2 : 0 ≤ p.2 ∧ p.2 ≤ 15) : Vec C (mergeV v p) := by
  unfold mergeV; split
  · exact hv
  · have hb := meet_bd (hv.2 p.1) h2.1 h2.2
    exact hv.set h1 ⟨by omega, hb.2⟩
/-- the ways out of a place, To first -/
def fromW (o : OpV) (i n : Nat) (x : Int) : List (Nat × Int) := toW o x ++ nextW o i n x
theorem fromW_mem (o : OpV) (i n : Nat) (x : Int) (p : Nat × Int) : p ∈ fromW o i n x ↔ p ∈ waysL o i n x := by unfold fromW waysL; simp [or_comm]
set_option maxRecDepth 20000 in
set_option maxHeartbeats 8000000 in
theorem l3From_any (C : List OpV) (ao : Option Addr) (cap F : Nat) (V : List Int) (i : Nat) (w : World) (hC : codeB C = true) (h : CodeAt w ao C) (hF : Bits w F V) (hV : Vec C V) (hi : i < C.length) (h0 : 0 ≤ atV V i) :
    Calls Tryz.prog 37 #[.slice ao C.length cap, .slice (some ⟨F, 0, none⟩) C.length C.length, .int .i64 i] w fun e w' =>
      e = .returned (.bool (foldB V (fromW C[i] i C.length (atV V i)))) ∧ Bits w' F (foldV V (fromW C[i] i C.length (atV V i))) ∧ But F w w' := by
  obtain ⟨hw, hl, hok⟩ := codeB_well hC
  rcases h with rfl | ⟨b, o, rfl, hlt, hs⟩
  · exact absurd hi (by simp)
  have hVl : V.length = C.length := hV.1
  have oi := opIs_of (hok i hi)
  have ht := hw.2 i hi
  have s := hs i hi
  obtain ⟨x, hx0⟩ : ∃ x, x = C[i] := ⟨_, rfl⟩
  rw [← hx0] at s oi ht ⊢
  clear hx0 hs
  obtain ⟨c0, c1, c2, c3, c4, c5⟩ := s
  have hk1 := oi.k1
  have hk2 := oi.k2
  have cF := hF.cell (i := i) (by omega)
  have hFlt := hF.lt
  have hbd := hV.2 i
  have hbd1 := hbd.1
  have hbd2 := hbd.2
  obtain ⟨t, htt⟩ := Int.eq_ofNat_of_zero_le ht.1
  have htl : t < C.length := by omega
  have htn : Hid (x.t.toNat = t) := by show x.t.toNat = t; rw [htt]; simp
  rw [htt] at c3
  have hii : (i : Int) < (C.length : Int) := by omega
  have hon : Hid (0 ≤ onB x (atV V i) ∧ onB x (atV V i) ≤ 15) := on_bd x hbd h0
  have hOn : Hid (onB x (atV V i) = if fillsB x.k = true then orB (atV V i) (bitOf x.r) else atV V i) := rfl
  have hW : Hid (fromW x i C.length (atV V i) = toW x (atV V i) ++ nextW x i C.length (atV V i)) := rfl
  have hTo : ∀ y, Hid (toW x y = if x.k = 8 ∨ x.k = 9 ∨ x.k = 10 then [(t, y)] else if x.k = 5 then [(t, 1)] else []) := by
    intro y; show toW x y = _; unfold toW; rw [htn.out]
  have hNx : ∀ y, Hid (nextW x i C.length y = if (!(x.k == 9 || x.k == 14) && decide (i + 1 < C.length)) = true then [(i + 1, onB x y)] else []) := fun y => rfl
  generalize hbe : atV V i = bits at *
  have hbe' : Hid (atV V i = bits) := hbe
  clear htt hw hok hC hbe
  go_enter Tryz.func37, Tryz.ntmps37
  go_wp2_with fail
  refine (l3Fills_any _ _ hk1 hk2).mono ?_
  rintro e wq ⟨rfl, rfl⟩
  cases hfl : fillsB x.k with
  | true =>
    have hO2 : Hid (orB bits (bitOf x.r) = onB x bits) := by show orB bits (bitOf x.r) = onB x bits; rw [hOn.out, if_pos hfl]
    go_wp2_with fail
    refine (l3With_any bits x.r _ h0 hbd2 ht.2.2.1 ht.2.2.2).mono ?_
    rintro e w1 ⟨rfl, hbw⟩
    rw [hO2.out]
    obtain ⟨hc1, _⟩ := bcell hbw
    have hz1 := hbw.size
    simp at hz1
    have d0 : w1.cell? ⟨w.heap.size, 0, none⟩ = some (.int .i64 x.k) := by rw [hc1 _ _ (by simp)]; simp [go_sem]
    have d3 : w1.cell? ⟨w.heap.size, 3, none⟩ = some (.int .i64 (t : Int)) := by rw [hc1 _ _ (by simp)]; simp [go_sem]
    have hb1 : Below w.heap.size w w1 := ((Below.refl _ _).alloc (Nat.le_refl _) _).trans (hbw.mono (by simp))
    have hF1 : Bits w1 F V := hF.keep (hb1.block F hFlt)
    have bt1 : But F w w1 := But.of_below hb1
    clear hc1 hbw cF c0 c1 c2 c3 c4 c5 hF
    by_cases h5 : x.k = 5
    · have hk : x.k = 5 := h5
      have e5 : (x.k == 5) = true := by simp [hk]
      have e9 : (x.k == 9) = false := by simp [hk]
      have e8 : (x.k == 8) = false := by simp [hk]
      have e10 : (x.k == 10) = false := by simp [hk]
      have e14 : (x.k == 14) = false := by simp [hk]
      have hkk : Hid (x.k = 5) := hk
      clear hk h5

      have hT2 : Hid (toW x bits = [(t, 1)]) := by show toW x bits = [(t, 1)]; rw [(hTo bits).out]; simp [hkk.out]
      go_wp2_with fail
      refine (l3Merge_any F C.length V hVl t 1 _ hF1 (by omega) (hV.2 t) (by decide) (by decide)).mono ?_
      rintro e wm ⟨rfl, hF2, bt2⟩
      have hFl2 := hF2.lt
      have hlen2 := merge_len V (t, 1)
      have hV2 := merge_vec hV (p := (t, 1)) htl ⟨by simp, by simp⟩
      have bt : But F w wm := bt1.trans bt2
      clear bt2
      generalize hmb : mergeB V (t, 1) = mb0 at *
      by_cases hn : i + 1 < C.length
      · have hL : Hid (fromW x i C.length bits = [(t, 1)] ++ [(i + 1, (onB x bits))]) := by show fromW x i C.length bits = [(t, 1)] ++ [(i + 1, (onB x bits))]; rw [hW.out, hT2.out, (hNx bits).out]; simp [hkk.out, hn]
        go_wp2_with fail
        have K := l3Merge_any F C.length (mergeV V (t, 1)) (by rw [hlen2, hVl]) (i + 1) (onB x bits) _ hF2 (by rw [hlen2]; omega) (hV2.2 _) hon.out.1 hon.out.2
        refine K.mono ?_
        rintro e wn ⟨rfl, hF3, bt3⟩
        clear K
        cases hmb2 : mergeB (mergeV V (t, 1)) (i + 1, (onB x bits)) with
        | true =>
          go_wp2_with fail
          go_ret
          exact ⟨by rw [hL.out]; simp [foldB, hmb2], by rw [hL.out]; exact hF3, bt.trans bt3⟩
        | false =>
          go_wp2_with fail
          go_ret
          exact ⟨by rw [hL.out]; simp [foldB, hmb2, hmb], by rw [hL.out]; exact hF3, bt.trans bt3⟩
      · have hL : Hid (fromW x i C.length bits = [(t, 1)] ++ []) := by show fromW x i C.length bits = [(t, 1)] ++ []; rw [hW.out, hT2.out, (hNx bits).out]; simp [hkk.out, hn]
        go_wp2_with fail
        refine (l3Merge_out F C.length (i + 1) (onB x bits) _ (by omega)).mono ?_
        rintro e wn ⟨rfl, rfl⟩
        go_wp2_with fail
        go_ret
        exact ⟨by rw [hL.out]; simp [foldB, hmb], by rw [hL.out]; exact hF2, bt⟩
    by_cases h8 : x.k = 8
    · have hk : x.k = 8 := h8
      have e5 : (x.k == 5) = false := by simp [hk]
      have e9 : (x.k == 9) = false := by simp [hk]
      have e8 : (x.k == 8) = true := by simp [hk]
      have e10 : (x.k == 10) = false := by simp [hk]
      have e14 : (x.k == 14) = false := by simp [hk]
      have hkk : Hid (x.k = 8) := hk
      clear hk h8

      have hT2 : Hid (toW x bits = [(t, bits)]) := by show toW x bits = [(t, bits)]; rw [(hTo bits).out]; simp [hkk.out]
      go_wp2_with fail
      refine (l3Merge_any F C.length V hVl t bits _ hF1 (by omega) (hV.2 t) h0 hbd2).mono ?_
      rintro e wm ⟨rfl, hF2, bt2⟩
      have hFl2 := hF2.lt
      have hlen2 := merge_len V (t, bits)
      have hV2 := merge_vec hV (p := (t, bits)) htl ⟨h0, hbd2⟩
      have bt : But F w wm := bt1.trans bt2
      clear bt2
      generalize hmb : mergeB V (t, bits) = mb0 at *
      by_cases hn : i + 1 < C.length
      · have hL : Hid (fromW x i C.length bits = [(t, bits)] ++ [(i + 1, (onB x bits))]) := by show fromW x i C.length bits = [(t, bits)] ++ [(i + 1, (onB x bits))]; rw [hW.out, hT2.out, (hNx bits).out]; simp [hkk.out, hn]
        go_wp2_with fail
        have K := l3Merge_any F C.length (mergeV V (t, bits)) (by rw [hlen2, hVl]) (i + 1) (onB x bits) _ hF2 (by rw [hlen2]; omega) (hV2.2 _) hon.out.1 hon.out.2
        refine K.mono ?_
        rintro e wn ⟨rfl, hF3, bt3⟩
        clear K
        cases hmb2 : mergeB (mergeV V (t, bits)) (i + 1, (onB x bits)) with
        | true =>
          go_wp2_with fail
          go_ret
          exact ⟨by rw [hL.out]; simp [foldB, hmb2], by rw [hL.out]; exact hF3, bt.trans bt3⟩
        | false =>
          go_wp2_with fail
          go_ret
          exact ⟨by rw [hL.out]; simp [foldB, hmb2, hmb], by rw [hL.out]; exact hF3, bt.trans bt3⟩
      · have hL : Hid (fromW x i C.length bits = [(t, bits)] ++ []) := by show fromW x i C.length bits = [(t, bits)] ++ []; rw [hW.out, hT2.out, (hNx bits).out]; simp [hkk.out, hn]
        go_wp2_with fail
        refine (l3Merge_out F C.length (i + 1) (onB x bits) _ (by omega)).mono ?_
        rintro e wn ⟨rfl, rfl⟩
        go_wp2_with fail
        go_ret
        exact ⟨by rw [hL.out]; simp [foldB, hmb], by rw [hL.out]; exact hF2, bt⟩
    have h9 : x.k ≠ 9 := by intro h; rw [h] at hfl; exact absurd hfl (by decide)
    have h10 : x.k ≠ 10 := by intro h; rw [h] at hfl; exact absurd hfl (by decide)
    have h14 : x.k ≠ 14 := by intro h; rw [h] at hfl; exact absurd hfl (by decide)
    have e5 : (x.k == 5) = false := by simp [h5]
    have e9 : (x.k == 9) = false := by simp [h9]
    have e8 : (x.k == 8) = false := by simp [h8]
    have e10 : (x.k == 10) = false := by simp [h10]
    have e14 : (x.k == 14) = false := by simp [h14]

    have hT2 : Hid (toW x bits = []) := by show toW x bits = []; rw [(hTo bits).out]; simp [h5, h8, h9, h10]
    by_cases hn : i + 1 < C.length
    · have hL : Hid (fromW x i C.length bits = [] ++ [(i + 1, (onB x bits))]) := by show fromW x i C.length bits = [] ++ [(i + 1, (onB x bits))]; rw [hW.out, hT2.out, (hNx bits).out]; simp [h9, h14, hn]
      go_wp2_with fail
      have K := l3Merge_any F C.length V (hVl) (i + 1) (onB x bits) _ hF1 (by omega) (hV.2 _) hon.out.1 hon.out.2
      refine K.mono ?_
      rintro e wn ⟨rfl, hF3, bt3⟩
      clear K
      cases hmb2 : mergeB V (i + 1, (onB x bits)) with
      | true =>
        go_wp2_with fail
        go_ret
        exact ⟨by rw [hL.out]; simp [foldB, hmb2], by rw [hL.out]; exact hF3, bt1.trans bt3⟩
      | false =>
        go_wp2_with fail
        go_ret
        exact ⟨by rw [hL.out]; simp [foldB, hmb2], by rw [hL.out]; exact hF3, bt1.trans bt3⟩
    · have hL : Hid (fromW x i C.length bits = [] ++ []) := by show fromW x i C.length bits = [] ++ []; rw [hW.out, hT2.out, (hNx bits).out]; simp [hn]
      go_wp2_with fail
      refine (l3Merge_out F C.length (i + 1) (onB x bits) _ (by omega)).mono ?_
      rintro e wn ⟨rfl, rfl⟩
      go_wp2_with fail
      go_ret
      exact ⟨by rw [hL.out]; simp [foldB], by rw [hL.out]; exact hF1, bt1⟩
  | false =>
    have hO2 : Hid (bits = onB x bits) := by show bits = onB x bits; rw [hOn.out, if_neg (by rw [hfl]; decide)]
    have hb1 : Below w.heap.size w (w.alloc (.cells #[.int .i64 x.k, .int .i64 x.r, .int .i64 x.s, .int .i64 (t : Int), .int .i64 x.a, .int .i64 x.b] 39)) := (Below.refl _ _).alloc (Nat.le_refl _) _
    have hF1 : Bits (w.alloc (.cells #[.int .i64 x.k, .int .i64 x.r, .int .i64 x.s, .int .i64 (t : Int), .int .i64 x.a, .int .i64 x.b] 39)) F V := hF.keep (hb1.block F hFlt)
    have bt1 : But F w (w.alloc (.cells #[.int .i64 x.k, .int .i64 x.r, .int .i64 x.s, .int .i64 (t : Int), .int .i64 x.a, .int .i64 x.b] 39)) := But.of_below hb1
    clear cF c0 c1 c2 c3 c4 c5 hF
    by_cases h9 : x.k = 9
    · have hk : x.k = 9 := h9
      have e5 : (x.k == 5) = false := by simp [hk]
      have e9 : (x.k == 9) = true := by simp [hk]
      have e8 : (x.k == 8) = false := by simp [hk]
      have e10 : (x.k == 10) = false := by simp [hk]
      have e14 : (x.k == 14) = false := by simp [hk]
      have hkk : Hid (x.k = 9) := hk
      clear hk h9

      have hT2 : Hid (toW x bits = [(t, bits)]) := by show toW x bits = [(t, bits)]; rw [(hTo bits).out]; simp [hkk.out]
      go_wp2_with fail
      refine (l3Merge_any F C.length V hVl t bits _ hF1 (by omega) (hV.2 t) h0 hbd2).mono ?_
      rintro e wm ⟨rfl, hF2, bt2⟩
      have hFl2 := hF2.lt
      have hlen2 := merge_len V (t, bits)
      have hV2 := merge_vec hV (p := (t, bits)) htl ⟨h0, hbd2⟩
      have bt : But F w wm := bt1.trans bt2
      clear bt2
      have hL : Hid (fromW x i C.length bits = [(t, bits)] ++ []) := by show fromW x i C.length bits = [(t, bits)] ++ []; rw [hW.out, hT2.out, (hNx bits).out]; simp [hkk.out]
      go_wp2_with fail
      go_ret
      exact ⟨by rw [hL.out]; simp [foldB], by rw [hL.out]; exact hF2, bt⟩
    by_cases h10 : x.k = 10
    · have hk : x.k = 10 := h10
      have e5 : (x.k == 5) = false := by simp [hk]
      have e9 : (x.k == 9) = false := by simp [hk]
      have e8 : (x.k == 8) = false := by simp [hk]
      have e10 : (x.k == 10) = true := by simp [hk]
      have e14 : (x.k == 14) = false := by simp [hk]
      have hkk : Hid (x.k = 10) := hk
      clear hk h10

      have hT2 : Hid (toW x bits = [(t, bits)]) := by show toW x bits = [(t, bits)]; rw [(hTo bits).out]; simp [hkk.out]
      go_wp2_with fail
      refine (l3Merge_any F C.length V hVl t bits _ hF1 (by omega) (hV.2 t) h0 hbd2).mono ?_
      rintro e wm ⟨rfl, hF2, bt2⟩
      have hFl2 := hF2.lt
      have hlen2 := merge_len V (t, bits)
      have hV2 := merge_vec hV (p := (t, bits)) htl ⟨h0, hbd2⟩
      have bt : But F w wm := bt1.trans bt2
      clear bt2
      generalize hmb : mergeB V (t, bits) = mb0 at *
      by_cases hn : i + 1 < C.length
      · have hL : Hid (fromW x i C.length bits = [(t, bits)] ++ [(i + 1, bits)]) := by show fromW x i C.length bits = [(t, bits)] ++ [(i + 1, bits)]; rw [hW.out, hT2.out, (hNx bits).out]; simp [hkk.out, hn, ← hO2.out]
        go_wp2_with fail
        have K := l3Merge_any F C.length (mergeV V (t, bits)) (by rw [hlen2, hVl]) (i + 1) bits _ hF2 (by rw [hlen2]; omega) (hV2.2 _) h0 hbd2
        refine K.mono ?_
        rintro e wn ⟨rfl, hF3, bt3⟩
        clear K
        cases hmb2 : mergeB (mergeV V (t, bits)) (i + 1, bits) with
        | true =>
          go_wp2_with fail
          go_ret
          exact ⟨by rw [hL.out]; simp [foldB, hmb2], by rw [hL.out]; exact hF3, bt.trans bt3⟩
        | false =>
          go_wp2_with fail
          go_ret
          exact ⟨by rw [hL.out]; simp [foldB, hmb2, hmb], by rw [hL.out]; exact hF3, bt.trans bt3⟩
      · have hL : Hid (fromW x i C.length bits = [(t, bits)] ++ []) := by show fromW x i C.length bits = [(t, bits)] ++ []; rw [hW.out, hT2.out, (hNx bits).out]; simp [hkk.out, hn]
        go_wp2_with fail
        refine (l3Merge_out F C.length (i + 1) bits _ (by omega)).mono ?_
        rintro e wn ⟨rfl, rfl⟩
        go_wp2_with fail
        go_ret
        exact ⟨by rw [hL.out]; simp [foldB, hmb], by rw [hL.out]; exact hF2, bt⟩
    by_cases h14 : x.k = 14
    · have hk : x.k = 14 := h14
      have e5 : (x.k == 5) = false := by simp [hk]
      have e9 : (x.k == 9) = false := by simp [hk]
      have e8 : (x.k == 8) = false := by simp [hk]
      have e10 : (x.k == 10) = false := by simp [hk]
      have e14 : (x.k == 14) = true := by simp [hk]
      have hkk : Hid (x.k = 14) := hk
      clear hk h14

      have hT2 : Hid (toW x bits = []) := by show toW x bits = []; rw [(hTo bits).out]; simp [hkk.out]
      have hL : Hid (fromW x i C.length bits = [] ++ []) := by show fromW x i C.length bits = [] ++ []; rw [hW.out, hT2.out, (hNx bits).out]; simp [hkk.out]
      go_wp2_with fail
      go_ret
      exact ⟨by rw [hL.out]; rfl, by rw [hL.out]; exact hF1, bt1⟩
    have h5 : x.k ≠ 5 := by intro h; rw [h] at hfl; exact absurd hfl (by decide)
    have h8 : x.k ≠ 8 := by intro h; rw [h] at hfl; exact absurd hfl (by decide)
    have e5 : (x.k == 5) = false := by simp [h5]
    have e9 : (x.k == 9) = false := by simp [h9]
    have e8 : (x.k == 8) = false := by simp [h8]
    have e10 : (x.k == 10) = false := by simp [h10]
    have e14 : (x.k == 14) = false := by simp [h14]

    have hT2 : Hid (toW x bits = []) := by show toW x bits = []; rw [(hTo bits).out]; simp [h5, h8, h9, h10]
    by_cases hn : i + 1 < C.length
    · have hL : Hid (fromW x i C.length bits = [] ++ [(i + 1, bits)]) := by show fromW x i C.length bits = [] ++ [(i + 1, bits)]; rw [hW.out, hT2.out, (hNx bits).out]; simp [h9, h14, hn, ← hO2.out]
      go_wp2_with fail
      have K := l3Merge_any F C.length V (hVl) (i + 1) bits _ hF1 (by omega) (hV.2 _) h0 hbd2
      refine K.mono ?_
      rintro e wn ⟨rfl, hF3, bt3⟩
      clear K
      cases hmb2 : mergeB V (i + 1, bits) with
      | true =>
        go_wp2_with fail
        go_ret
        exact ⟨by rw [hL.out]; simp [foldB, hmb2], by rw [hL.out]; exact hF3, bt1.trans bt3⟩
      | false =>
        go_wp2_with fail
        go_ret
        exact ⟨by rw [hL.out]; simp [foldB, hmb2], by rw [hL.out]; exact hF3, bt1.trans bt3⟩
    · have hL : Hid (fromW x i C.length bits = [] ++ []) := by show fromW x i C.length bits = [] ++ []; rw [hW.out, hT2.out, (hNx bits).out]; simp [hn]
      go_wp2_with fail
      refine (l3Merge_out F C.length (i + 1) bits _ (by omega)).mono ?_
      rintro e wn ⟨rfl, rfl⟩
      go_wp2_with fail
      go_ret
      exact ⟨by rw [hL.out]; simp [foldB], by rw [hL.out]; exact hF1, bt1⟩
end Go.Proofs.YtphgpimkkfgedaaGreatDoor
