/-
  The eldest value in a run's mail that fits a kind, over this translation: what spec.l11First and spec.RunFirst answer; nothing that was there turns.
-/
import Derived.Test.YtefaocjcfecipaaRunOkS
namespace Go.Proofs.Ytefaocjcfecipaa
open Go.ChangeShapes Go.WideShapes Go.ChangeAt Go.RowKit Go.Joins
/-- whether a value of a kind fits -/
def fitQ (kind k : Int) : Bool := (kind == 0) || (k == kind)
/-- the place of the eldest that fits, if one does -/
def firstP (kind : Int) : List (Int × Int) → Option Nat
  | [] => none
  | v :: M => if fitQ kind v.1 then some 0 else (firstP kind M).map (· + 1)
theorem firstP_some {kind : Int} : ∀ {M : List (Int × Int)} {k : Nat} (hk : k < M.length), (∀ j (h : j < M.length), j < k → fitQ kind M[j].1 = false) → fitQ kind M[k].1 = true → firstP kind M = some k
  | [], k, hk, _, _ => absurd hk (Nat.not_lt_zero _)
  | v :: M, 0, _, _, h => by
    have h' : fitQ kind v.1 = true := h
    unfold firstP
    rw [if_pos h']
  | v :: M, k + 1, hk, hu, h => by
    have h0 : fitQ kind v.1 = false := hu 0 (by simp) (by omega)
    have hk' : k < M.length := by simpa using hk
    have ih := firstP_some hk' (fun j hj hjk => hu (j + 1) (by simp; omega) (by omega)) h
    unfold firstP
    rw [if_neg (by rw [h0]; simp), ih]
    rfl
theorem firstP_none {kind : Int} : ∀ {M : List (Int × Int)}, (∀ j (h : j < M.length), fitQ kind M[j].1 = false) → firstP kind M = none
  | [], _ => rfl
  | v :: M, hu => by
    have h0 : fitQ kind v.1 = false := hu 0 (by simp)
    have ih := firstP_none (M := M) (fun j hj => hu (j + 1) (by simp; omega))
    unfold firstP
    rw [if_neg (by rw [h0]; simp), ih]
    rfl
/-- the place as a number, -1 where none fits -/
def firstI (kind : Int) (M : List (Int × Int)) : Int := match firstP kind M with
  | some k => k
  | none => -1
theorem l1Fits_any (k n kind : Int) (w : World) :
    Calls Try.prog 73 #[.agg #[.int .i64 k, .int .i64 n], .int .i64 kind] w fun e w' => e = .returned (.bool (fitQ kind k)) ∧ Below w.heap.size w w' := by
  have hF : Hid (fitQ kind k = ((kind == 0) || (k == kind))) := rfl
  go_enter Try.func73, Try.ntmps73
  cases h0 : (kind == 0) with
  | true =>
    go_wp2_with fail
    go_ret
    exact ⟨by rw [hF.out, h0]; rfl, by first | exact Below.refl _ _ | exact (Below.refl _ _).alloc (Nat.le_refl _) _⟩
  | false =>
    go_wp2_with fail
    go_ret
    exact ⟨by rw [hF.out, h0]; rfl, by first | exact Below.refl _ _ | exact (Below.refl _ _).alloc (Nat.le_refl _) _⟩
set_option maxRecDepth 20000 in
set_option maxHeartbeats 4000000 in
theorem l11First_any (S : Nat) (d : RunD) (q : RunP) (kind : Int) (w : World) (hS : S ≤ w.heap.size) (hs : d.Short) (hM : RunMem S w d q) :
    Calls Try.prog 52 #[d.val q, .int .i64 kind] w fun e w' => e = .returned (.int .i64 (firstI kind d.mail)) ∧ Below w.heap.size w w' := by
  have hB0 : Below w.heap.size w (w.alloc (.cells (d.cells q) 30)) := (Below.refl _ _).alloc (Nat.le_refl _) _
  have hA0 : RunAt (w.alloc (.cells (d.cells q) 30)) w.heap.size d q := runAt_new w d q 30
  have hz0 : w.heap.size < (w.alloc (.cells (d.cells q) 30)).heap.size := by simp
  have hM0 : RunMem S (w.alloc (.cells (d.cells q) 30)) d q := hM.below (hB0.mono hS)
  have hls := hs.s1
  clear hM
  go_enter Try.func52, Try.ntmps52
  go_wp2_with fail
  generalize (w.alloc (.cells (d.cells q) 30)) = w0 at *
  obtain ⟨ao, cap2, hv, hc2⟩ := hM0.m1
  injection hv with r1 _ r3
  have c4 := hA0.c4
  rw [r1, r3] at c4
  clear hA0 hM0 hs
  rcases hc2 with hL0 | ⟨b2, o2, rfl, hb2, hc2⟩
  · have hf : Hid (firstI kind d.mail = -1) := by show _ = _; rw [hL0]; rfl
    have hn0 : ((d.mail.length : Nat) : Int) = 0 := by rw [hL0]; rfl
    replace hL0 : Hid (d.mail = []) := hL0
    refine wp_loop_rounds 1 ?_
    rw [rounds_succ]
    go_wp2_with fail
    go_ret
    exact ⟨by rw [hf.out]; rfl, hB0⟩
  replace hc2 : Hid (∀ i (h : i < d.mail.length), ValAt w0 b2 (o2 + i * 2) d.mail[i]) := hc2
  have hbw2 : b2 < w0.heap.size := by omega
  replace r1 := (show Hid _ from r1)
  replace r3 := (show Hid _ from r3)
  obtain ⟨M, hMe⟩ : ∃ M, M = d.mail := ⟨_, rfl⟩
  rw [← hMe] at c4 hc2 hls
  replace hMe : Hid (M = d.mail) := hMe
  go_loopw [5] (fun i wr => ∃ k : Nat, k ≤ M.length ∧ i = .int .i64 k ∧ (∀ j (h : j < M.length), j < k → fitQ kind M[j].1 = false) ∧ Below w0.heap.size w0 wr) (fun i _ => M.length - (intOf i).toNat)
  case atStart => exact ⟨0, Nat.zero_le _, rfl, fun j _ hj => by omega, Below.refl _ _⟩
  case round =>
    obtain ⟨k, hk, rfl, hU2, hBz⟩ := hrel
    have hzz := hBz.size
    replace hU2 : Hid (∀ j (h : j < M.length), j < k → fitQ kind M[j].1 = false) := hU2
    have c4z : wr.cell? ⟨w.heap.size, 4, none⟩ = some (.slice (some ⟨b2, o2, none⟩) M.length cap2) := (hBz.cell (p := ⟨w.heap.size, 4, none⟩) hz0).trans c4
    by_cases hlt : k < M.length
    · have g2 : (k : Int) < (M.length : Int) := by omega
      obtain ⟨v0, v1⟩ := hc2.out k hlt
      have d0 : wr.cell? ⟨b2, o2 + k * 2, none⟩ = some (.int .i64 M[k].1) := (hBz.cell (p := ⟨b2, o2 + k * 2, none⟩) hbw2).trans v0
      have d1 : wr.cell? ⟨b2, o2 + k * 2 + 1, none⟩ = some (.int .i64 M[k].2) := (hBz.cell (p := ⟨b2, o2 + k * 2 + 1, none⟩) hbw2).trans v1
      have hyes : Hid (fitQ kind M[k].1 = true → firstI kind d.mail = k) := fun h => by
        unfold firstI
        rw [← hMe.out, firstP_some hlt hU2.out h]
      have hno : Hid (fitQ kind M[k].1 = false → ∀ j (h : j < M.length), j < k + 1 → fitQ kind M[j].1 = false) := fun h j hjl hj => by
        by_cases e : j < k
        · exact hU2.out j hjl e
        · have : j = k := by omega
          subst this; exact h
      clear v0 v1 c4
      generalize M[k].1 = x at *
      generalize M[k].2 = y at *
      go_wp2_with fail
      refine (l1Fits_any x y kind _).mono ?_
      rintro e u1 ⟨rfl, hb1⟩
      have hB1 : Below w0.heap.size w0 u1 := hBz.trans (hb1.mono (by omega))
      clear d0 d1 c4z hb1
      cases hob : fitQ kind x with
      | true =>
        have hyq : Hid (firstI kind d.mail = k) := hyes.out hob
        go_wp2_with fail
        go_ret
        exact ⟨by rw [hyq.out]; rfl, hB0.trans (hB1.mono (by omega))⟩
      | false =>
        have hnq := (show Hid _ from hno.out hob)
        go_wp2_with fail
        go_roundw
        case rel => exact ⟨k + 1, by omega, by go_num, hnq.out, hB1⟩
        case measure => simp [intOf]; omega
    · have e : k = M.length := by omega
      subst e
      have hf : Hid (firstI kind d.mail = -1) := by
        show _ = _
        unfold firstI
        rw [← hMe.out, firstP_none (fun j h => hU2.out j h h)]
      go_wp2_with fail
      go_ret
      exact ⟨by rw [hf.out]; rfl, hB0.trans (hBz.mono (by omega))⟩
/-- what RunFirst answers, as the specification has it -/
def sFirst (d : RunD) (kind : Int) : Int × Bool := if specB d = true ∧ (0 ≤ kind ∧ kind ≤ 3) then (match firstP kind d.mail with | some k => ((k : Int), true) | none => (0, false)) else (0, false)
set_option maxRecDepth 20000 in
set_option maxHeartbeats 4000000 in
theorem specRunFirst_any (S : Nat) (d : RunD) (q : RunP) (kind : Int) (w : World) (hS : S ≤ w.heap.size) (hs : d.Short) (hk2 : d.links.length ≤ q.k2) (hk3 : d.wat.length ≤ q.k3) (hM : RunMem S w d q) :
    Calls Try.prog 17 #[d.val q, .int .i64 kind] w fun e w' => e = .returned (.tuple #[.int .i64 (sFirst d kind).1, .bool (sFirst d kind).2]) ∧ Below w.heap.size w w' := by
  have hB0 : Below w.heap.size w (w.alloc (.cells (d.cells q) 30)) := (Below.refl _ _).alloc (Nat.le_refl _) _
  have hA0 : RunAt (w.alloc (.cells (d.cells q) 30)) w.heap.size d q := runAt_new w d q 30
  have hS0 : S ≤ (w.alloc (.cells (d.cells q) 30)).heap.size := by simp; omega
  have hz0 : w.heap.size < (w.alloc (.cells (d.cells q) 30)).heap.size := by simp
  have hM0 : RunMem S (w.alloc (.cells (d.cells q) 30)) d q := hM.below (hB0.mono hS)
  replace hs : Hid d.Short := hs
  replace hk2 : Hid (d.links.length ≤ q.k2) := hk2
  replace hk3 : Hid (d.wat.length ≤ q.k3) := hk3
  clear hM
  go_enter Try.func17, Try.ntmps17
  go_wp2_with fail
  generalize (w.alloc (.cells (d.cells q) 30)) = w0 at *
  refine (specRunOk_any S d q w0 hS0 hs.out hk2.out hk3.out hM0).mono ?_
  rintro e w1 ⟨rfl, hb1⟩
  have hz1 := hb1.size
  have hA1 := hA0.below hz0 hb1
  have hM1 := hM0.below (hb1.mono hS0)
  have hB1 : Below w.heap.size w w1 := hB0.trans (hb1.mono (by omega))
  clear hb1 hA0 hM0
  cases h1 : specB d with
  | false =>
    have hf : Hid (sFirst d kind = (0, false)) := if_neg (by rw [h1]; simp)
    go_wp2_with fail
    exact bodyPost_ret (v := .tuple #[.int .i64 0, .bool false]) (by simp [results, Try.results17, go_sem]) rfl ⟨by rw [hf.out], hB1⟩
  | true =>
    have hA1' := hA1
    obtain ⟨c0, c1, c2, c3, c4, c5, c6, c7, c8, c9, c10, c11, c12⟩ := hA1'
    cases h2 : (decide (0 ≤ kind) && decide (kind ≤ 3)) with
    | false =>
      have hf : Hid (sFirst d kind = (0, false)) := if_neg (by simp at h2; rintro ⟨_, h3, h4⟩; omega)
      have h2' : Hid (Calls Try.prog 30 #[.int .i64 kind, .int .i64 0, .int .i64 3] w1 fun e w' => e = .returned (.bool false) ∧ w' = w1) := by
        show Calls _ _ _ _ _
        rw [← h2]
        exact l6In_any kind 0 3 w1
      clear h2
      go_wp2_with fail
      refine h2'.out.mono ?_
      rintro e w2 ⟨rfl, hw2⟩
      rw [hw2]
      clear hw2 w2
      go_wp2_with fail
      exact bodyPost_ret (v := .tuple #[.int .i64 0, .bool false]) (by simp [results, Try.results17, go_sem]) rfl ⟨by rw [hf.out], hB1⟩
    | true =>
      have hf : Hid (sFirst d kind = (match firstP kind d.mail with | some k => ((k : Int), true) | none => (0, false))) := if_pos (by simp at h2; exact ⟨h1, h2⟩)
      have h2' : Hid (Calls Try.prog 30 #[.int .i64 kind, .int .i64 0, .int .i64 3] w1 fun e w' => e = .returned (.bool true) ∧ w' = w1) := by
        show Calls _ _ _ _ _
        rw [← h2]
        exact l6In_any kind 0 3 w1
      clear h2
      go_wp2_with fail
      refine h2'.out.mono ?_
      rintro e w2 ⟨rfl, hw2⟩
      rw [hw2]
      clear hw2 w2
      go_wp2_with fail
      refine (l11First_any S d q kind w1 (by omega) hs.out hM1).mono ?_
      rintro e w2 ⟨rfl, hb2⟩
      have hB2 : Below w.heap.size w w2 := hB1.trans (hb2.mono (by omega))
      clear c0 c1 c2 c3 c4 c5 c6 c7 c8 c9 c10 c11 c12
      cases h3 : firstP kind d.mail with
      | none =>
        have hi : firstI kind d.mail = -1 := by unfold firstI; rw [h3]
        rw [hi]
        go_wp2_with fail
        exact bodyPost_ret (v := .tuple #[.int .i64 0, .bool false]) (by simp [results, Try.results17, go_sem]) rfl ⟨by rw [hf.out, h3], hB2⟩
      | some k =>
        have hi : firstI kind d.mail = k := by unfold firstI; rw [h3]
        have hk0 : (0 : Int) ≤ (k : Int) := by omega
        rw [hi]
        go_wp2_with fail
        exact bodyPost_ret (v := .tuple #[.int .i64 k, .bool true]) (by simp [results, Try.results17, go_sem]) rfl ⟨by rw [hf.out, h3], hB2⟩
end Go.Proofs.Ytefaocjcfecipaa
