/-
  impl.RunFirst over this translation: it answers what spec.RunFirst does, of every run; nothing that was there turns.
-/
import Derived.Test.YtefaocjcfecipaaFirstS
import Derived.Test.YtefaocjcfecipaaAhead
namespace Go.Proofs.Ytefaocjcfecipaa
open Go.ChangeShapes Go.WideShapes Go.ChangeAt Go.RowKit Go.Joins
open AH
theorem chainOf_all (S : Nat) (M : List (Int × Int)) (v : Value) (w : World) (hS : S ≤ w.heap.size) (hl : M.length ≤ 1048576) (hM : Vals S w v M) :
    Calls Try.prog 53 #[v] w fun e w' => e = .returned (.pointer (some ⟨w.heap.size, 0, none⟩)) ∧ (∃ l, Seg w' w.heap.size M l ∧ l < w'.heap.size ∧ w'.cell? ⟨l, 2, none⟩ = some (.pointer none)) ∧ Below w.heap.size w w' := by
  obtain ⟨ao, cap, rfl, hc⟩ := hM
  rcases hc with rfl | ⟨b, o, rfl, hb, hc⟩
  · go_enter Try.func53, Try.ntmps53
    go_wp2_with fail
    refine wp_loop_rounds 1 ?_
    rw [rounds_succ]
    go_wp2_with fail
    go_ret
    exact ⟨rfl, ⟨w.heap.size, rfl, by simp, by simp [go_sem]⟩, (Below.refl _ _).alloc (Nat.le_refl _) _⟩
  · exact chainOf_any S M b o cap w hS hl hb hc
theorem fits_in {k n kind : Int} (h : fitsB k n kind = true) : fitQ kind k = true ∧ (0 ≤ kind ∧ kind ≤ 3) := by
  unfold fitsB at h
  rw [Bool.and_eq_true] at h
  obtain ⟨h1, h2⟩ := h
  have hk : 0 ≤ k ∧ k ≤ 3 := by
    by_cases h0 : k = 0
    · omega
    by_cases h1' : k = 1
    · omega
    by_cases h2' : k = 2
    · omega
    by_cases h3 : k = 3
    · omega
    rw [okB_else k n h0 h1' h2' h3] at h1; cases h1
  unfold fitQ
  simp only [Bool.or_eq_true, beq_iff_eq] at h2 ⊢
  constructor <;> omega
theorem fits_out {k n kind : Int} (hok : okB k n = true) (h : fitsB k n kind = false) : fitQ kind k = false := by
  unfold fitsB at h
  rw [hok, Bool.true_and] at h
  unfold fitQ
  simp only [Bool.or_eq_false_iff, beq_eq_false_iff_ne] at h ⊢
  exact ⟨h.1, fun e => h.2 e.symm⟩
theorem run_parts {d : RunD} (h : runB d = true) : (∀ i (h : i < d.mail.length), okB d.mail[i].1 d.mail[i].2 = true) ∧ endB d = true := by
  unfold runB mailB at h
  simp only [Bool.and_eq_true] at h
  obtain ⟨_, _, _, ⟨_, h4⟩, _, _, _, h8⟩ := h
  refine ⟨fun i hi => ?_, h8⟩
  unfold allOk at h4
  rw [List.all_eq_true] at h4
  exact h4 _ (List.getElem_mem hi)
theorem first_none {d : RunD} {kind : Int} (h : runB d = true) (hn : ∀ j (h : j < d.mail.length), fitsB d.mail[j].1 d.mail[j].2 kind = false) : sFirst d kind = (0, false) := by
  obtain ⟨ho, _⟩ := run_parts h
  unfold sFirst
  rw [firstP_none (fun j hj => fits_out (ho j hj) (hn j hj))]
  split <;> rfl
theorem first_some {d : RunD} {kind : Int} {k : Nat} (h : runB d = true) (hk : k < d.mail.length) (hy : fitsB d.mail[k].1 d.mail[k].2 kind = true) (hn : ∀ j (h : j < d.mail.length), j < k → fitsB d.mail[j].1 d.mail[j].2 kind = false) : sFirst d kind = ((k : Int), true) := by
  obtain ⟨ho, he⟩ := run_parts h
  obtain ⟨hq, hin⟩ := fits_in hy
  have hs : specB d = true := by
    unfold specB
    rw [h, Bool.true_and]
    unfold endB at he
    by_cases h3 : d.st = 3
    · rw [if_pos h3, Bool.and_eq_true] at he
      have := he.1
      simp at this
      rw [this] at hk
      simp at hk
    · rw [if_neg h3] at he
      simp only [Bool.and_eq_true, beq_iff_eq] at he
      rw [he.1, he.2]
      rfl
  unfold sFirst
  rw [if_pos ⟨hs, hin⟩, firstP_some hk (fun j hj hjk => fits_out (ho j hj) (hn j hj hjk)) hq]
set_option maxRecDepth 20000 in
set_option maxHeartbeats 4000000 in
theorem implRunFirst_any (S : Nat) (d : RunD) (q : RunP) (kind : Int) (w : World) (hS : S ≤ w.heap.size) (hs : d.Short) (hk2 : d.links.length ≤ q.k2) (hk3 : d.wat.length ≤ q.k3) (hM : RunMem S w d q) :
    Calls Try.prog 18 #[d.val q, .int .i64 kind] w fun e w' => e = .returned (.tuple #[.int .i64 (sFirst d kind).1, .bool (sFirst d kind).2]) ∧ Below w.heap.size w w' := by
  have hB0 : Below w.heap.size w (w.alloc (.cells (d.cells q) 30)) := (Below.refl _ _).alloc (Nat.le_refl _) _
  have hA0 : RunAt (w.alloc (.cells (d.cells q) 30)) w.heap.size d q := runAt_new w d q 30
  have hS0 : S ≤ (w.alloc (.cells (d.cells q) 30)).heap.size := by simp; omega
  have hz0 : w.heap.size < (w.alloc (.cells (d.cells q) 30)).heap.size := by simp
  have hM0 : RunMem S (w.alloc (.cells (d.cells q) 30)) d q := hM.below (hB0.mono hS)
  replace hs : Hid d.Short := hs
  replace hk2 : Hid (d.links.length ≤ q.k2) := hk2
  replace hk3 : Hid (d.wat.length ≤ q.k3) := hk3
  clear hM
  go_enter Try.func18, Try.ntmps18
  go_wp2_with fail
  generalize (w.alloc (.cells (d.cells q) 30)) = w0 at *
  refine (implRunOk_any S d q w0 hS0 hs.out hk2.out hk3.out hM0).mono ?_
  rintro e w1 ⟨rfl, hb1⟩
  have hz1 := hb1.size
  have hA1 := hA0.below hz0 hb1
  have hM1 := hM0.below (hb1.mono hS0)
  have hB1 : Below w.heap.size w w1 := hB0.trans (hb1.mono (by omega))
  clear hb1 hA0 hM0
  cases h1 : runB d with
  | false =>
    have hf : Hid (sFirst d kind = (0, false)) := if_neg (by unfold specB; rw [h1]; simp)
    go_wp2_with fail
    exact bodyPost_ret (v := .tuple #[.int .i64 0, .bool false]) (by simp [results, Try.results18, go_sem]) rfl ⟨by rw [hf.out], hB1⟩
  | true =>
    replace h1 : Hid (runB d = true) := h1
    have c4 := hA1.c4
    go_wp2_with fail
    refine (chainOf_all S d.mail _ w1 (by omega) hs.out.s1 hM1.m1).mono ?_
    rintro e w2 ⟨rfl, ⟨l, hG, hlw, hn⟩, hb2⟩
    have hB2 : Below w.heap.size w w2 := hB1.trans (hb2.mono (by omega))
    have hz2 := hb2.size
    clear c4 hb2
    go_wp2_with fail
    refine (aheadOf_any w1.heap.size l d.mail kind w2 hs.out.s1 hG hlw hn).mono ?_
    rintro e w3 ⟨hAh, hb3⟩
    have hB3 : Below w.heap.size w w3 := hB2.trans (hb3.mono (by omega))
    clear hG hn hb3
    rcases hAh with ⟨k, ab, hk, rfl, _, _, hy, hu⟩ | ⟨rfl, hu⟩
    · have hf : Hid (sFirst d kind = ((k : Int), true)) := first_some h1.out hk hy hu
      clear hk hy hu
      go_wp2_with fail
      exact bodyPost_ret (v := .tuple #[.int .i64 k, .bool true]) (by simp [results, Try.results18, go_sem]) rfl ⟨by rw [hf.out], hB3⟩
    · have hf : Hid (sFirst d kind = (0, false)) := first_none h1.out hu
      clear hu
      go_wp2_with fail
      exact bodyPost_ret (v := .tuple #[.int .i64 0, .bool false]) (by simp [results, Try.results18, go_sem]) rfl ⟨by rw [hf.out], hB3⟩
end Go.Proofs.Ytefaocjcfecipaa
