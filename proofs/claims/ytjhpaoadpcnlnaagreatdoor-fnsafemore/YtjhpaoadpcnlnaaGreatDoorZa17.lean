/-
  What CodeSafe answers at any argument, apart from any program. No condition.
  spec.l3From over this translation: the ways out of a place are merged, first To, then the next place; nothing else turns.
  spec.l3Full and spec.CodeFull over this translation: what is full ahead of each step, in a row of its own; nothing that was there turns.
-/
import Derived.Test.YtjhpaoadpcnlnaaGreatDoorZa02
import Derived.Test.YtjhpaoadpcnlnaaGreatDoorZa15
import Derived.Test.YtjhpaoadpcnlnaaGreatDoorZa16
import Derived.Test.YtjhpaoadpcnlnaaGreatDoorZa14
import Derived.Deep.LoopGhost
namespace Go.Proofs.YtjhpaoadpcnlnaaGreatDoor
/-- whether the step at a place reads but full slots, and goes on where there is a step -/
def safeP (C : List OpV) (V : List Int) (i : Nat) : Prop :=
  ∀ (h : i < C.length), 0 ≤ atV V i → (∀ u ∈ usesL C[i].k C[i].r C[i].s, hasB (atV V i) u = true) ∧ (endsB C[i].k = true ∨ i + 1 < C.length)
def SafeOf (C : List OpV) (b : Bool) : Prop := (codeB C = true ∧ ∃ V, IsFull C V ∧ (b = true ↔ ∀ i, i < C.length → safeP C V i)) ∨ (codeB C = false ∧ b = false)
theorem safeOf_one {C : List OpV} {a b : Bool} (h : SafeOf C a) (k : SafeOf C b) : a = b := by
  rcases h with ⟨h, V, f, e⟩ | ⟨h, rfl⟩
  · rcases k with ⟨_, U, g, d⟩ | ⟨k, _⟩
    · have := full_one f g
      subst this
      rw [Bool.eq_iff_iff, e, d]
    · rw [h] at k; cases k
  · rcases k with ⟨k, _⟩ | ⟨_, rfl⟩
    · rw [h] at k; cases k
    · rfl
theorem safe_yes {C : List OpV} (hC : codeB C = true) {V : List Int} (h : IsFull C V) (k : ∀ i, i < C.length → safeP C V i) : SafeOf C true := .inl ⟨hC, V, h, by simp; exact k⟩
theorem safe_no {C : List OpV} (hC : codeB C = true) {V : List Int} (h : IsFull C V) {i : Nat} (hi : i < C.length) (k : ¬ safeP C V i) : SafeOf C false := .inl ⟨hC, V, h, by simp; exact ⟨i, hi, k⟩⟩
/-- the slots of a list, as bits -/
def foldO (l : List Int) : Int := l.foldl (fun b u => orB b (bitOf u)) 0
theorem int_fin4 {u : Int} (h : 0 ≤ u ∧ u ≤ 3) : ∃ i : Fin 4, u = (i.val : Int) := ⟨⟨u.toNat, by omega⟩, by simp; omega⟩
theorem andNot_uses {x : Int} (hx : Bd x) (h0 : 0 ≤ x) : ∀ l : List Int, l.length ≤ 2 → (∀ u ∈ l, 0 ≤ u ∧ u ≤ 3) → (bits .andNot .i64 (foldO l) x == 0) = l.all (hasB x)
  | [], _, _ => by
    have key : ∀ i : Fin 17, 0 ≤ (i.val : Int) - 1 → (bits .andNot .i64 (foldO []) ((i.val : Int) - 1) == 0) = true := by decide +kernel
    obtain ⟨i, rfl⟩ := bd_fin hx
    exact key i h0
  | [u], _, h => by
    have key : ∀ i : Fin 17, ∀ j : Fin 4, 0 ≤ (i.val : Int) - 1 → (bits .andNot .i64 (foldO [(j.val : Int)]) ((i.val : Int) - 1) == 0) = [(j.val : Int)].all (hasB ((i.val : Int) - 1)) := by decide +kernel
    obtain ⟨i, rfl⟩ := bd_fin hx
    obtain ⟨j, rfl⟩ := int_fin4 (h u (by simp))
    exact key i j h0
  | [u, v], _, h => by
    have key : ∀ i : Fin 17, ∀ j k : Fin 4, 0 ≤ (i.val : Int) - 1 → (bits .andNot .i64 (foldO [(j.val : Int), (k.val : Int)]) ((i.val : Int) - 1) == 0) = [(j.val : Int), (k.val : Int)].all (hasB ((i.val : Int) - 1)) := by decide +kernel
    obtain ⟨i, rfl⟩ := bd_fin hx
    obtain ⟨j, rfl⟩ := int_fin4 (h u (by simp))
    obtain ⟨k, rfl⟩ := int_fin4 (h v (by simp))
    exact key i j k h0
  | _ :: _ :: _ :: _, hl, _ => by simp at hl
theorem foldO_take (l : List Int) (k : Nat) (h : k < l.length) : foldO (l.take (k + 1)) = orB (foldO (l.take k)) (bitOf l[k]) := by
  unfold foldO
  rw [List.take_add_one, List.getElem?_eq_getElem h, List.foldl_append]; rfl
theorem foldO_bd : ∀ l : List Int, 0 ≤ foldO l ∧ foldO l ≤ 15 := by
  have key : ∀ (l : List Int) (b : Int), 0 ≤ b ∧ b ≤ 15 → 0 ≤ l.foldl (fun b u => orB b (bitOf u)) b ∧ l.foldl (fun b u => orB b (bitOf u)) b ≤ 15 := by
    intro l
    induction l with
    | nil => intro b h; exact h
    | cons u l ih =>
      intro b h
      have hb := bit_bd u
      exact ih _ (or_bd ⟨by omega, h.2⟩ h.1 hb.1 hb.2)
  exact fun l => key l 0 ⟨by decide, by decide⟩
theorem uses_bd {k r s : Int} (hr : 0 ≤ r ∧ r ≤ 3) (hs : 0 ≤ s ∧ s ≤ 3) : ∀ u ∈ usesL k r s, 0 ≤ u ∧ u ≤ 3 := by
  intro u hu
  unfold usesL at hu
  repeat' split at hu
  all_goals simp at hu
  all_goals first | (rcases hu with rfl | rfl <;> assumption) | (subst hu; assumption)
theorem uses_len (k r s : Int) : (usesL k r s).length ≤ 2 := by
  unfold usesL
  split
  · simp
  · split
    · simp
    · split <;> simp
end Go.Proofs.YtjhpaoadpcnlnaaGreatDoor
namespace Go.Proofs.YtjhpaoadpcnlnaaGreatDoor
open Go.ChangeShapes Go.WideShapes Go.ChangeAt Go.RowKit Go.Joins
def foldV (V : List Int) : List (Nat × Int) → List Int
  | [] => V
  | p :: ps => foldV (mergeV V p) ps
def foldB (V : List Int) : List (Nat × Int) → Bool
  | [] => false
  | p :: ps => foldB (mergeV V p) ps || mergeB V p
theorem rnd_fold {C : List OpV} {u : List Int} : ∀ (ps : List (Nat × Int)) {v : List Int} {m : Bool}, Rnd C u v m → (∀ p ∈ ps, Sound C p) →
    Rnd C u (foldV v ps) (foldB v ps || m) ∧ (foldB v ps = false → foldV v ps = v ∧ ∀ p ∈ ps, Le (atV v p.1) p.2)
  | [], v, m, h, _ => ⟨by simpa [foldV, foldB] using h, fun _ => ⟨rfl, fun p hp => by cases hp⟩⟩
  | p :: ps, v, m, h, hs => by
    obtain ⟨h1, h2⟩ := rnd_merge h (hs p (by simp))
    obtain ⟨k1, k2⟩ := rnd_fold ps h1 (fun q hq => hs q (by simp [hq]))
    refine ⟨?_, fun e => ?_⟩
    · simp only [foldV, foldB, Bool.or_assoc]
      exact k1
    · simp only [foldB, Bool.or_eq_false_iff] at e
      obtain ⟨a1, a2⟩ := k2 e.1
      obtain ⟨b1, b2⟩ := h2 e.2
      refine ⟨by simp only [foldV]; rw [a1, b1], fun q hq => ?_⟩
      rcases List.mem_cons.1 hq with rfl | hq
      · exact b2
      · have := a2 q hq; rwa [b1] at this
theorem merge_vec {C : List OpV} {v : List Int} (hv : Vec C v) {p : Nat × Int} (h1 : p.1 < C.length) (h2 : 0 ≤ p.2 ∧ p.2 ≤ 15) : Vec C (mergeV v p) := by
  unfold mergeV; split
  · exact hv
  · have hb := meet_bd (hv.2 p.1) h2.1 h2.2
    exact hv.set h1 ⟨by omega, hb.2⟩
/-- the ways out of a place, To first -/
def fromW (o : OpV) (i n : Nat) (x : Int) : List (Nat × Int) := toW o x ++ nextW o i n x
theorem fromW_mem (o : OpV) (i n : Nat) (x : Int) (p : Nat × Int) : p ∈ fromW o i n x ↔ p ∈ waysL o i n x := by unfold fromW waysL; simp [or_comm]
set_option maxRecDepth 20000 in
set_option maxHeartbeats 8000000 in
theorem l3From_any (C : List OpV) (ao : Option Addr) (cap F : Nat) (V : List Int) (i : Nat) (w : World) (hC : codeB C = true) (h : CodeAt w ao C) (hF : Bits w F V) (hV : Vec C V) (hi : i < C.length) (h0 : 0 ≤ atV V i) :
    Calls Tryz.prog 106 #[.slice ao C.length cap, .slice (some ⟨F, 0, none⟩) C.length C.length, .int .i64 i] w fun e w' =>
      e = .returned (.bool (foldB V (fromW C[i] i C.length (atV V i)))) ∧ Bits w' F (foldV V (fromW C[i] i C.length (atV V i))) ∧ But F w w' := by
  obtain ⟨hw, hl, hok⟩ := codeB_well hC
  rcases h with rfl | ⟨b, o, rfl, hlt, hs⟩
  · exact absurd hi (by simp)
  have hVl : V.length = C.length := hV.1
  have oi := opIs_of (hok i hi)
  have ht := hw.2 i hi
  have s := hs i hi
  obtain ⟨x, hx0⟩ : ∃ x, x = C[i] := ⟨_, rfl⟩
  rw [← hx0] at s oi ht ⊢
  clear hx0 hs
  obtain ⟨c0, c1, c2, c3, c4, c5⟩ := s
  have hk1 := oi.k1
  have hk2 := oi.k2
  have cF := hF.cell (i := i) (by omega)
  have hFlt := hF.lt
  have hbd := hV.2 i
  have hbd1 := hbd.1
  have hbd2 := hbd.2
  obtain ⟨t, htt⟩ := Int.eq_ofNat_of_zero_le ht.1
  have htl : t < C.length := by omega
  have htn : Hid (x.t.toNat = t) := by show x.t.toNat = t; rw [htt]; simp
  rw [htt] at c3
  have hii : (i : Int) < (C.length : Int) := by omega
  have hon : Hid (0 ≤ onB x (atV V i) ∧ onB x (atV V i) ≤ 15) := on_bd x hbd h0
  have hOn : Hid (onB x (atV V i) = if fillsB x.k = true then orB (atV V i) (bitOf x.r) else atV V i) := rfl
  have hW : Hid (fromW x i C.length (atV V i) = toW x (atV V i) ++ nextW x i C.length (atV V i)) := rfl
  have hTo : ∀ y, Hid (toW x y = if x.k = 8 ∨ x.k = 9 ∨ x.k = 10 then [(t, y)] else if x.k = 5 then [(t, 1)] else []) := by
    intro y; show toW x y = _; unfold toW; rw [htn.out]
  have hNx : ∀ y, Hid (nextW x i C.length y = if (!(x.k == 9 || x.k == 14) && decide (i + 1 < C.length)) = true then [(i + 1, onB x y)] else []) := fun y => rfl
  generalize hbe : atV V i = bits at *
  have hbe' : Hid (atV V i = bits) := hbe
  clear htt hw hok hC hbe
  go_enter Tryz.func106, Tryz.ntmps106
  go_wp2_with fail
  refine (l3Fills_any _ _ hk1 hk2).mono ?_
  rintro e wq ⟨rfl, rfl⟩
  cases hfl : fillsB x.k with
  | true =>
    have hO2 : Hid (orB bits (bitOf x.r) = onB x bits) := by show orB bits (bitOf x.r) = onB x bits; rw [hOn.out, if_pos hfl]
    go_wp2_with fail
    refine (l3With_any bits x.r _ h0 hbd2 ht.2.2.1 ht.2.2.2).mono ?_
    rintro e w1 ⟨rfl, hbw⟩
    rw [hO2.out]
    obtain ⟨hc1, _⟩ := bcell hbw
    have hz1 := hbw.size
    simp at hz1
    have d0 : w1.cell? ⟨w.heap.size, 0, none⟩ = some (.int .i64 x.k) := by rw [hc1 _ _ (by simp)]; simp [go_sem]
    have d3 : w1.cell? ⟨w.heap.size, 3, none⟩ = some (.int .i64 (t : Int)) := by rw [hc1 _ _ (by simp)]; simp [go_sem]
    have hb1 : Below w.heap.size w w1 := ((Below.refl _ _).alloc (Nat.le_refl _) _).trans (hbw.mono (by simp))
    have hF1 : Bits w1 F V := hF.keep (hb1.block F hFlt)
    have bt1 : But F w w1 := But.of_below hb1
    clear hc1 hbw cF c0 c1 c2 c3 c4 c5 hF
    by_cases h5 : x.k = 5
    · have hk : x.k = 5 := h5
      have e5 : (x.k == 5) = true := by simp [hk]
      have e9 : (x.k == 9) = false := by simp [hk]
      have e8 : (x.k == 8) = false := by simp [hk]
      have e10 : (x.k == 10) = false := by simp [hk]
      have e14 : (x.k == 14) = false := by simp [hk]
      have hkk : Hid (x.k = 5) := hk
      clear hk h5

      have hT2 : Hid (toW x bits = [(t, 1)]) := by show toW x bits = [(t, 1)]; rw [(hTo bits).out]; simp [hkk.out]
      go_wp2_with fail
      refine (l3Merge_any F C.length V hVl t 1 _ hF1 (by omega) (hV.2 t) (by decide) (by decide)).mono ?_
      rintro e wm ⟨rfl, hF2, bt2⟩
      have hFl2 := hF2.lt
      have hlen2 := merge_len V (t, 1)
      have hV2 := merge_vec hV (p := (t, 1)) htl ⟨by simp, by simp⟩
      have bt : But F w wm := bt1.trans bt2
      clear bt2
      generalize hmb : mergeB V (t, 1) = mb0 at *
      by_cases hn : i + 1 < C.length
      · have hL : Hid (fromW x i C.length bits = [(t, 1)] ++ [(i + 1, (onB x bits))]) := by show fromW x i C.length bits = [(t, 1)] ++ [(i + 1, (onB x bits))]; rw [hW.out, hT2.out, (hNx bits).out]; simp [hkk.out, hn]
        go_wp2_with fail
        have K := l3Merge_any F C.length (mergeV V (t, 1)) (by rw [hlen2, hVl]) (i + 1) (onB x bits) _ hF2 (by rw [hlen2]; omega) (hV2.2 _) hon.out.1 hon.out.2
        refine K.mono ?_
        rintro e wn ⟨rfl, hF3, bt3⟩
        clear K
        cases hmb2 : mergeB (mergeV V (t, 1)) (i + 1, (onB x bits)) with
        | true =>
          go_wp2_with fail
          go_ret
          exact ⟨by rw [hL.out]; simp [foldB, hmb2], by rw [hL.out]; exact hF3, bt.trans bt3⟩
        | false =>
          go_wp2_with fail
          go_ret
          exact ⟨by rw [hL.out]; simp [foldB, hmb2, hmb], by rw [hL.out]; exact hF3, bt.trans bt3⟩
      · have hL : Hid (fromW x i C.length bits = [(t, 1)] ++ []) := by show fromW x i C.length bits = [(t, 1)] ++ []; rw [hW.out, hT2.out, (hNx bits).out]; simp [hkk.out, hn]
        go_wp2_with fail
        refine (l3Merge_out F C.length (i + 1) (onB x bits) _ (by omega)).mono ?_
        rintro e wn ⟨rfl, rfl⟩
        go_wp2_with fail
        go_ret
        exact ⟨by rw [hL.out]; simp [foldB, hmb], by rw [hL.out]; exact hF2, bt⟩
    by_cases h8 : x.k = 8
    · have hk : x.k = 8 := h8
      have e5 : (x.k == 5) = false := by simp [hk]
      have e9 : (x.k == 9) = false := by simp [hk]
      have e8 : (x.k == 8) = true := by simp [hk]
      have e10 : (x.k == 10) = false := by simp [hk]
      have e14 : (x.k == 14) = false := by simp [hk]
      have hkk : Hid (x.k = 8) := hk
      clear hk h8

      have hT2 : Hid (toW x bits = [(t, bits)]) := by show toW x bits = [(t, bits)]; rw [(hTo bits).out]; simp [hkk.out]
      go_wp2_with fail
      refine (l3Merge_any F C.length V hVl t bits _ hF1 (by omega) (hV.2 t) h0 hbd2).mono ?_
      rintro e wm ⟨rfl, hF2, bt2⟩
      have hFl2 := hF2.lt
      have hlen2 := merge_len V (t, bits)
      have hV2 := merge_vec hV (p := (t, bits)) htl ⟨h0, hbd2⟩
      have bt : But F w wm := bt1.trans bt2
      clear bt2
      generalize hmb : mergeB V (t, bits) = mb0 at *
      by_cases hn : i + 1 < C.length
      · have hL : Hid (fromW x i C.length bits = [(t, bits)] ++ [(i + 1, (onB x bits))]) := by show fromW x i C.length bits = [(t, bits)] ++ [(i + 1, (onB x bits))]; rw [hW.out, hT2.out, (hNx bits).out]; simp [hkk.out, hn]
        go_wp2_with fail
        have K := l3Merge_any F C.length (mergeV V (t, bits)) (by rw [hlen2, hVl]) (i + 1) (onB x bits) _ hF2 (by rw [hlen2]; omega) (hV2.2 _) hon.out.1 hon.out.2
        refine K.mono ?_
        rintro e wn ⟨rfl, hF3, bt3⟩
        clear K
        cases hmb2 : mergeB (mergeV V (t, bits)) (i + 1, (onB x bits)) with
        | true =>
          go_wp2_with fail
          go_ret
          exact ⟨by rw [hL.out]; simp [foldB, hmb2], by rw [hL.out]; exact hF3, bt.trans bt3⟩
        | false =>
          go_wp2_with fail
          go_ret
          exact ⟨by rw [hL.out]; simp [foldB, hmb2, hmb], by rw [hL.out]; exact hF3, bt.trans bt3⟩
      · have hL : Hid (fromW x i C.length bits = [(t, bits)] ++ []) := by show fromW x i C.length bits = [(t, bits)] ++ []; rw [hW.out, hT2.out, (hNx bits).out]; simp [hkk.out, hn]
        go_wp2_with fail
        refine (l3Merge_out F C.length (i + 1) (onB x bits) _ (by omega)).mono ?_
        rintro e wn ⟨rfl, rfl⟩
        go_wp2_with fail
        go_ret
        exact ⟨by rw [hL.out]; simp [foldB, hmb], by rw [hL.out]; exact hF2, bt⟩
    have h9 : x.k ≠ 9 := by intro h; rw [h] at hfl; exact absurd hfl (by decide)
    have h10 : x.k ≠ 10 := by intro h; rw [h] at hfl; exact absurd hfl (by decide)
    have h14 : x.k ≠ 14 := by intro h; rw [h] at hfl; exact absurd hfl (by decide)
    have e5 : (x.k == 5) = false := by simp [h5]
    have e9 : (x.k == 9) = false := by simp [h9]
    have e8 : (x.k == 8) = false := by simp [h8]
    have e10 : (x.k == 10) = false := by simp [h10]
    have e14 : (x.k == 14) = false := by simp [h14]

    have hT2 : Hid (toW x bits = []) := by show toW x bits = []; rw [(hTo bits).out]; simp [h5, h8, h9, h10]
    by_cases hn : i + 1 < C.length
    · have hL : Hid (fromW x i C.length bits = [] ++ [(i + 1, (onB x bits))]) := by show fromW x i C.length bits = [] ++ [(i + 1, (onB x bits))]; rw [hW.out, hT2.out, (hNx bits).out]; simp [h9, h14, hn]
      go_wp2_with fail
      have K := l3Merge_any F C.length V (hVl) (i + 1) (onB x bits) _ hF1 (by omega) (hV.2 _) hon.out.1 hon.out.2
      refine K.mono ?_
      rintro e wn ⟨rfl, hF3, bt3⟩
      clear K
      cases hmb2 : mergeB V (i + 1, (onB x bits)) with
      | true =>
        go_wp2_with fail
        go_ret
        exact ⟨by rw [hL.out]; simp [foldB, hmb2], by rw [hL.out]; exact hF3, bt1.trans bt3⟩
      | false =>
        go_wp2_with fail
        go_ret
        exact ⟨by rw [hL.out]; simp [foldB, hmb2], by rw [hL.out]; exact hF3, bt1.trans bt3⟩
    · have hL : Hid (fromW x i C.length bits = [] ++ []) := by show fromW x i C.length bits = [] ++ []; rw [hW.out, hT2.out, (hNx bits).out]; simp [hn]
      go_wp2_with fail
      refine (l3Merge_out F C.length (i + 1) (onB x bits) _ (by omega)).mono ?_
      rintro e wn ⟨rfl, rfl⟩
      go_wp2_with fail
      go_ret
      exact ⟨by rw [hL.out]; simp [foldB], by rw [hL.out]; exact hF1, bt1⟩
  | false =>
    have hO2 : Hid (bits = onB x bits) := by show bits = onB x bits; rw [hOn.out, if_neg (by rw [hfl]; decide)]
    have hb1 : Below w.heap.size w (w.alloc (.cells #[.int .i64 x.k, .int .i64 x.r, .int .i64 x.s, .int .i64 (t : Int), .int .i64 x.a, .int .i64 x.b] 26)) := (Below.refl _ _).alloc (Nat.le_refl _) _
    have hF1 : Bits (w.alloc (.cells #[.int .i64 x.k, .int .i64 x.r, .int .i64 x.s, .int .i64 (t : Int), .int .i64 x.a, .int .i64 x.b] 26)) F V := hF.keep (hb1.block F hFlt)
    have bt1 : But F w (w.alloc (.cells #[.int .i64 x.k, .int .i64 x.r, .int .i64 x.s, .int .i64 (t : Int), .int .i64 x.a, .int .i64 x.b] 26)) := But.of_below hb1
    clear cF c0 c1 c2 c3 c4 c5 hF
    by_cases h9 : x.k = 9
    · have hk : x.k = 9 := h9
      have e5 : (x.k == 5) = false := by simp [hk]
      have e9 : (x.k == 9) = true := by simp [hk]
      have e8 : (x.k == 8) = false := by simp [hk]
      have e10 : (x.k == 10) = false := by simp [hk]
      have e14 : (x.k == 14) = false := by simp [hk]
      have hkk : Hid (x.k = 9) := hk
      clear hk h9

      have hT2 : Hid (toW x bits = [(t, bits)]) := by show toW x bits = [(t, bits)]; rw [(hTo bits).out]; simp [hkk.out]
      go_wp2_with fail
      refine (l3Merge_any F C.length V hVl t bits _ hF1 (by omega) (hV.2 t) h0 hbd2).mono ?_
      rintro e wm ⟨rfl, hF2, bt2⟩
      have hFl2 := hF2.lt
      have hlen2 := merge_len V (t, bits)
      have hV2 := merge_vec hV (p := (t, bits)) htl ⟨h0, hbd2⟩
      have bt : But F w wm := bt1.trans bt2
      clear bt2
      have hL : Hid (fromW x i C.length bits = [(t, bits)] ++ []) := by show fromW x i C.length bits = [(t, bits)] ++ []; rw [hW.out, hT2.out, (hNx bits).out]; simp [hkk.out]
      go_wp2_with fail
      go_ret
      exact ⟨by rw [hL.out]; simp [foldB], by rw [hL.out]; exact hF2, bt⟩
    by_cases h10 : x.k = 10
    · have hk : x.k = 10 := h10
      have e5 : (x.k == 5) = false := by simp [hk]
      have e9 : (x.k == 9) = false := by simp [hk]
      have e8 : (x.k == 8) = false := by simp [hk]
      have e10 : (x.k == 10) = true := by simp [hk]
      have e14 : (x.k == 14) = false := by simp [hk]
      have hkk : Hid (x.k = 10) := hk
      clear hk h10

      have hT2 : Hid (toW x bits = [(t, bits)]) := by show toW x bits = [(t, bits)]; rw [(hTo bits).out]; simp [hkk.out]
      go_wp2_with fail
      refine (l3Merge_any F C.length V hVl t bits _ hF1 (by omega) (hV.2 t) h0 hbd2).mono ?_
      rintro e wm ⟨rfl, hF2, bt2⟩
      have hFl2 := hF2.lt
      have hlen2 := merge_len V (t, bits)
      have hV2 := merge_vec hV (p := (t, bits)) htl ⟨h0, hbd2⟩
      have bt : But F w wm := bt1.trans bt2
      clear bt2
      generalize hmb : mergeB V (t, bits) = mb0 at *
      by_cases hn : i + 1 < C.length
      · have hL : Hid (fromW x i C.length bits = [(t, bits)] ++ [(i + 1, bits)]) := by show fromW x i C.length bits = [(t, bits)] ++ [(i + 1, bits)]; rw [hW.out, hT2.out, (hNx bits).out]; simp [hkk.out, hn, ← hO2.out]
        go_wp2_with fail
        have K := l3Merge_any F C.length (mergeV V (t, bits)) (by rw [hlen2, hVl]) (i + 1) bits _ hF2 (by rw [hlen2]; omega) (hV2.2 _) h0 hbd2
        refine K.mono ?_
        rintro e wn ⟨rfl, hF3, bt3⟩
        clear K
        cases hmb2 : mergeB (mergeV V (t, bits)) (i + 1, bits) with
        | true =>
          go_wp2_with fail
          go_ret
          exact ⟨by rw [hL.out]; simp [foldB, hmb2], by rw [hL.out]; exact hF3, bt.trans bt3⟩
        | false =>
          go_wp2_with fail
          go_ret
          exact ⟨by rw [hL.out]; simp [foldB, hmb2, hmb], by rw [hL.out]; exact hF3, bt.trans bt3⟩
      · have hL : Hid (fromW x i C.length bits = [(t, bits)] ++ []) := by show fromW x i C.length bits = [(t, bits)] ++ []; rw [hW.out, hT2.out, (hNx bits).out]; simp [hkk.out, hn]
        go_wp2_with fail
        refine (l3Merge_out F C.length (i + 1) bits _ (by omega)).mono ?_
        rintro e wn ⟨rfl, rfl⟩
        go_wp2_with fail
        go_ret
        exact ⟨by rw [hL.out]; simp [foldB, hmb], by rw [hL.out]; exact hF2, bt⟩
    by_cases h14 : x.k = 14
    · have hk : x.k = 14 := h14
      have e5 : (x.k == 5) = false := by simp [hk]
      have e9 : (x.k == 9) = false := by simp [hk]
      have e8 : (x.k == 8) = false := by simp [hk]
      have e10 : (x.k == 10) = false := by simp [hk]
      have e14 : (x.k == 14) = true := by simp [hk]
      have hkk : Hid (x.k = 14) := hk
      clear hk h14

      have hT2 : Hid (toW x bits = []) := by show toW x bits = []; rw [(hTo bits).out]; simp [hkk.out]
      have hL : Hid (fromW x i C.length bits = [] ++ []) := by show fromW x i C.length bits = [] ++ []; rw [hW.out, hT2.out, (hNx bits).out]; simp [hkk.out]
      go_wp2_with fail
      go_ret
      exact ⟨by rw [hL.out]; rfl, by rw [hL.out]; exact hF1, bt1⟩
    have h5 : x.k ≠ 5 := by intro h; rw [h] at hfl; exact absurd hfl (by decide)
    have h8 : x.k ≠ 8 := by intro h; rw [h] at hfl; exact absurd hfl (by decide)
    have e5 : (x.k == 5) = false := by simp [h5]
    have e9 : (x.k == 9) = false := by simp [h9]
    have e8 : (x.k == 8) = false := by simp [h8]
    have e10 : (x.k == 10) = false := by simp [h10]
    have e14 : (x.k == 14) = false := by simp [h14]

    have hT2 : Hid (toW x bits = []) := by show toW x bits = []; rw [(hTo bits).out]; simp [h5, h8, h9, h10]
    by_cases hn : i + 1 < C.length
    · have hL : Hid (fromW x i C.length bits = [] ++ [(i + 1, bits)]) := by show fromW x i C.length bits = [] ++ [(i + 1, bits)]; rw [hW.out, hT2.out, (hNx bits).out]; simp [h9, h14, hn, ← hO2.out]
      go_wp2_with fail
      have K := l3Merge_any F C.length V (hVl) (i + 1) bits _ hF1 (by omega) (hV.2 _) h0 hbd2
      refine K.mono ?_
      rintro e wn ⟨rfl, hF3, bt3⟩
      clear K
      cases hmb2 : mergeB V (i + 1, bits) with
      | true =>
        go_wp2_with fail
        go_ret
        exact ⟨by rw [hL.out]; simp [foldB, hmb2], by rw [hL.out]; exact hF3, bt1.trans bt3⟩
      | false =>
        go_wp2_with fail
        go_ret
        exact ⟨by rw [hL.out]; simp [foldB, hmb2], by rw [hL.out]; exact hF3, bt1.trans bt3⟩
    · have hL : Hid (fromW x i C.length bits = [] ++ []) := by show fromW x i C.length bits = [] ++ []; rw [hW.out, hT2.out, (hNx bits).out]; simp [hn]
      go_wp2_with fail
      refine (l3Merge_out F C.length (i + 1) bits _ (by omega)).mono ?_
      rintro e wn ⟨rfl, rfl⟩
      go_wp2_with fail
      go_ret
      exact ⟨by rw [hL.out]; simp [foldB], by rw [hL.out]; exact hF1, bt1⟩
end Go.Proofs.YtjhpaoadpcnlnaaGreatDoor
namespace Go.Proofs.YtjhpaoadpcnlnaaGreatDoor
open Go.ChangeShapes Go.WideShapes Go.ChangeAt Go.RowKit Go.Joins
/-- the first is 0, the others ahead of k are -1 -/
def fillS (n k : Nat) : List Int := 0 :: (List.replicate (k - 1) (-1) ++ List.replicate (n - k) 0)
theorem fillS_len (n k : Nat) (h1 : 1 ≤ k) (h : k ≤ n) : (fillS n k).length = n := by simp [fillS]; omega
theorem fillS_step (n k : Nat) (h1 : 1 ≤ k) (h : k < n) : (fillS n k).set k (-1) = fillS n (k + 1) := by
  unfold fillS
  obtain ⟨j, rfl⟩ : ∃ j, k = j + 1 := ⟨k - 1, by omega⟩
  rw [List.set_cons_succ, Nat.add_sub_cancel, List.set_append_right _ _ (by simp), List.length_replicate, Nat.sub_self, show n - (j + 1) = (n - (j + 1 + 1)) + 1 by omega, List.replicate_succ, List.set_cons_zero, Nat.add_sub_cancel, List.replicate_succ', List.append_assoc]; rfl
theorem fillS_start (n : Nat) (h : 1 ≤ n) : (fillS n n).set 0 1 = startV n := by
  obtain ⟨m, rfl⟩ : ∃ m, n = m + 1 := ⟨n - 1, by omega⟩
  simp [fillS, startV, List.replicate_succ]
theorem fillS_zero (n : Nat) (h : 1 ≤ n) : fillS n 1 = List.replicate n 0 := by
  obtain ⟨m, rfl⟩ : ∃ m, n = m + 1 := ⟨n - 1, by omega⟩
  simp [fillS, List.replicate_succ]
set_option maxRecDepth 20000 in
set_option maxHeartbeats 8000000 in
theorem l3Full_any (C : List OpV) (ao : Option Addr) (cap : Nat) (w : World) (hC : codeB C = true) (h : CodeAt w ao C) :
    Calls Tryz.prog 67 #[.slice ao C.length cap] w fun e w' => ∃ L, e = .returned (.slice (some ⟨w.heap.size, 0, none⟩) C.length C.length) ∧ IsFull C L ∧ Bits w' w.heap.size L ∧ Below w.heap.size w w' := by
  obtain ⟨hw, hl16, hok⟩ := codeB_well hC
  obtain ⟨inf, i1, i2, i3, i4⟩ := info_intI
  have hn1 : 1 ≤ C.length := hw.1
  go_enter Tryz.func67, Tryz.ntmps67
  go_wp2_with (refine wpList_make_full _ rfl (.tmp 8) (.tmp 8) 38 rfl w.heap.size 3 inf _ 1 Tryz.underlying38 i1 i2 i3 .i64 .i64 _ _ C.length rfl rfl rfl rfl (by rw [i4]; omega) (by unfold maxLen; omega) (Nat.le_refl _) ?_; intro w2 ho hg2)
  have hF : Bits w2 w.heap.size (fillS C.length 1) := by
    have e : (madeCells (Value.cells (.int .i64 0)) (C.length * 1)).toList = (fillS C.length 1).map (Value.int .i64) := by
      show (madeCells #[.int .i64 0] (C.length * 1)).toList = _
      rw [toList_madeCells_one, fillS_zero _ hn1]; simp
    rw [e] at ho
    have hfl := fillS_len C.length 1 (Nat.le_refl _) hn1
    unfold Bits
    rw [hfl]
    exact ho
  have hz2 := hg2.size
  have hB2 : Below w.heap.size w w2 := (Below.refl _ _).grown hg2 (by omega) (by intro k hk; cases hk)
  clear ho hg2
  generalize hFe : w.heap.size = F at *
  go_loopw [4] (fun i wr => ∃ k : Nat, 1 ≤ k ∧ k ≤ C.length ∧ i = .int .i64 k ∧ Bits wr F (fillS C.length k) ∧ Below F w2 wr) (fun i _ => C.length - (intOf i).toNat)
  case atStart => exact ⟨1, Nat.le_refl _, hn1, rfl, hF, Below.refl _ _⟩
  case round =>
    clear hF
    obtain ⟨k, hk1, hk, rfl, hF, hB⟩ := hrel
    have hfl := fillS_len C.length k hk1 hk
    by_cases hlt : k < C.length
    · have c0 := hF.cell (i := k) (by rw [hfl]; exact hlt)
      have f0 := hF.free k
      have hF' := hF.set k (-1)
      rw [fillS_step _ _ hk1 hlt] at hF'
      have R : Hid (Bits (wr.setCell ⟨F, k, none⟩ (.int .i64 (-1))) F (fillS C.length (k + 1))) := hF'
      clear hF hF' hfl
      generalize atV (fillS C.length k) k = x0 at *
      go_wp2_with fail
      go_roundw
      case rel => exact ⟨k + 1, by omega, by omega, by go_num, R.out, hB.setCell (by exact Nat.le_refl _) _⟩
      case measure => simp [intOf]; omega
    · have e : k = C.length := by omega
      subst e
      have c0 := hF.cell (i := 0) (by rw [hfl]; omega)
      have f0 := hF.free 0
      have hF0 : Hid (Bits (wr.setCell ⟨F, 0, none⟩ (.int .i64 1)) F (startV C.length)) := by
        show Bits _ _ _
        rw [← fillS_start _ hn1]; exact hF.set 0 1
      obtain ⟨r1, r2, r3⟩ := rnd_start hw
      clear hF hfl
      generalize atV (fillS C.length C.length) 0 = x0 at *
      have hB' : Hid (Below F w2 (wr.setCell ⟨F, 0, none⟩ (.int .i64 1))) := hB.setCell (by exact Nat.le_refl _) _
      go_wp2_with fail
      go_loopg [5] (sumR (startV C.length) + 1) (fun gk s5 wx => ∃ V m, s5 = .bool m ∧ Bits wx F V ∧ Vec C V ∧ Top C V ∧ Le (atV V 0) 1 ∧ (m = false → IsFull C V) ∧ (m = true → sumR V + 1 ≤ gk) ∧ Below F w2 wx)
      case atStart => exact ⟨startV C.length, true, rfl, hF0.out, r1, r2, r3, fun h => (by cases h), fun _ => Nat.le_refl _, hB'.out⟩
      case round =>
        clear hF0 hB r1 r2 r3 hB' c0 f0
        obtain ⟨V, m, rfl, hF, hV, hT, hL1, hdone, hgk, hB⟩ := hrel
        cases m with
        | false =>
          have hd : Hid (IsFull C V) := hdone rfl
          clear hdone hgk
          go_wp2_with fail
          go_ret
          rw [hFe]
          exact ⟨V, rfl, hd.out, hF, hB2.trans (hB.mono (by omega))⟩
        | true =>
          have hgk' := hgk rfl
          clear hdone hgk
          go_wp2_with fail
          go_loopw [5, 6] (fun s5 s6 wy => ∃ (k : Nat) (U : List Int) (m : Bool), k ≤ C.length ∧ s6 = .int .i64 k ∧ s5 = .bool m ∧ Rnd C V U m ∧ (m = false → Upto C k U) ∧ Bits wy F U ∧ Below F w2 wy) (fun _ i _ => C.length - (intOf i).toNat)
          case atStart => exact ⟨0, V, false, Nat.zero_le _, rfl, rfl, ⟨hV, hT, hL1, fun _ => rfl, fun h => by cases h⟩, fun _ j _ h => by omega, hF, hB⟩
          case round =>
            clear hF hV hT hL1 hB
            obtain ⟨k, U, m, hk, rfl, rfl, hR, hU, hF, hB⟩ := hrel
            have hUl : U.length = C.length := hR.1.1
            by_cases hlt : k < C.length
            · have c0 := hF.cell (i := k) (by rw [hUl]; exact hlt)
              have hki : (k : Int) < (C.length : Int) := by omega
              by_cases h0 : 0 ≤ atV U k
              · have hsnd : Hid (∀ p ∈ fromW C[k] k C.length (atV U k), Sound C p) := fun p hp => sound_ways hw hR.1 hR.2.1 hlt h0 p ((fromW_mem _ _ _ _ _).1 hp)
                have hcall : Hid (Calls Tryz.prog 106 #[.slice ao C.length cap, .slice (some ⟨F, 0, none⟩) C.length C.length, .int .i64 k] wr fun e w' =>
                    e = .returned (.bool (foldB U (fromW C[k] k C.length (atV U k)))) ∧ Bits w' F (foldV U (fromW C[k] k C.length (atV U k))) ∧ But F wr w') := l3From_any C ao cap F U k wr hC (h.below (by rw [hFe]; exact hB2.trans hB)) hF hR.1 hlt h0
                have hup : Hid (∀ q ∈ waysL C[k] k C.length (atV U k), q ∈ fromW C[k] k C.length (atV U k)) := fun q hq => (fromW_mem _ _ _ _ _).2 hq
                have hFlt := hF.lt
                generalize hx : atV U k = x at *
                have hx' : Hid (atV U k = x) := hx
                generalize hps : fromW C[k] k C.length x = ps at *
                clear hx hps
                obtain ⟨f1, f2⟩ := rnd_fold ps hR hsnd.out
                have f1' : Hid (Rnd C V (foldV U ps) (foldB U ps || m)) := f1
                have f2' : Hid (foldB U ps = false → foldV U ps = U ∧ ∀ p ∈ ps, Le (atV U p.1) p.2) := f2
                have hU' : Hid (m = false → Upto C k U) := hU
                have hR' : Hid (Rnd C V U m) := hR
                clear f1 f2 hU hR
                go_wp2_with fail
                refine hcall.out.mono ?_
                rintro e w3 ⟨rfl, hF3, bt3⟩
                have hB3 : Below F w2 w3 := hB.trans (bt3.below (Nat.le_refl _) (by omega))
                cases hb : foldB U ps with
                | true =>
                  have hR3 : Hid (Rnd C V (foldV U ps) true) := by have := f1'.out; rw [hb] at this; exact this
                  go_wp2_with fail
                  go_roundw
                  case rel => exact ⟨k + 1, foldV U ps, true, by omega, by go_num, rfl, hR3.out, (fun h => by cases h), hF3, hB3⟩
                  case measure => simp [intOf]; omega
                | false =>
                  obtain ⟨g1, g2⟩ := f2'.out hb
                  rw [g1] at hF3
                  have hn : Hid (m = false → Upto C (k + 1) U) := fun hm j hj hjk h0 q hq => by
                    by_cases e : j < k
                    · exact hU'.out hm j hj e h0 q hq
                    · have : j = k := by omega
                      subst this
                      rw [hx'.out] at hq
                      exact g2 q (hup.out q hq)
                  clear g1 g2
                  go_wp2_with fail
                  go_roundw
                  case rel => exact ⟨k + 1, U, m, by omega, by go_num, rfl, hR'.out, hn.out, hF3, hB3⟩
                  case measure => simp [intOf]; omega
              · have hU' : Hid (m = false → Upto C (k + 1) U) := fun hm j hj hjk hj0 q hq => by
                  by_cases e : j < k
                  · exact hU hm j hj e hj0 q hq
                  · have : j = k := by omega
                    subst this
                    exact absurd hj0 h0
                have hR' : Hid (Rnd C V U m) := hR
                clear hU hR
                generalize atV U k = x at *
                go_wp2_with fail
                go_roundw
                case rel => exact ⟨k + 1, U, m, by omega, by go_num, rfl, hR'.out, hU'.out, hF, hB⟩
                case measure => simp [intOf]; omega
            · have e : k = C.length := by omega
              subst e
              have hd : Hid (m = false → IsFull C U) := fun e => by
                subst e; exact rnd_done hR (hU rfl)
              have hR' : Hid (Rnd C V U m) := hR
              clear hU hR
              go_wp2_with fail
              go_roundg (sumR U + 1 - (if m = true then 0 else 1))
              case measure =>
                have h5 := hR'.out.2.2.2.2
                have h4 := hR'.out.2.2.2.1
                cases m with
                | true => have := h5 rfl; simp; omega
                | false => rw [h4 rfl]; simp; omega
              case rel =>
                exact ⟨U, m, rfl, hF, hR'.out.1, hR'.out.2.1, hR'.out.2.2.1, hd.out, (fun e => by subst e; simp), hB⟩
set_option maxHeartbeats 2000000 in
theorem specCodeFull_any (C : List OpV) (ao : Option Addr) (cap : Nat) (w : World) (hl : C.length ≤ 1048576) (h : CodeAt w ao C) :
    Calls Tryz.prog 31 #[.slice ao C.length cap] w fun e w' => ∃ v L, e = .returned v ∧ FullOf C L ∧ Owns w' w.heap.size v L ∧ Below w.heap.size w w' := by
  go_enter Tryz.func31, Tryz.ntmps31
  go_wp2_with fail
  refine (specCodeOk_any C ao cap _ hl h).mono ?_
  rintro e w1 ⟨rfl, hb1⟩
  have hz1 := hb1.size
  cases hC : codeB C with
  | false =>
    have hlit : Owns (w1.alloc (.cells #[] 3)) w.heap.size (.slice (some ⟨w1.heap.size, 0, none⟩) 0 0) [] := by
      have := World.ownsRow_lit (base := w.heap.size) (e := 3) (size := 1) w1 #[] 0 (by omega) (by decide) rfl
      simpa [Owns] using this
    go_wp2_with fail
    go_ret
    exact ⟨_, [], rfl, .inr ⟨hC, rfl⟩, hlit, hb1.alloc (by omega) _⟩
  | true =>
    go_wp2_with fail
    refine (l3Full_any C ao cap _ hC (h.below hb1)).mono ?_
    rintro e w2 ⟨L, rfl, hL, hF, hb2⟩
    go_wp2_with fail
    go_ret
    refine ⟨_, L, rfl, .inl ⟨hC, hL⟩, ?_, hb1.trans (hb2.mono (by omega))⟩
    have hVl : L.length = C.length := hL.1.1.1
    have hO : Owns w2 w1.heap.size (.slice (some ⟨w1.heap.size, 0, none⟩) L.length L.length) L := hF
    rw [hVl] at hO
    exact Owns.mono hO (by omega)
end Go.Proofs.YtjhpaoadpcnlnaaGreatDoor
