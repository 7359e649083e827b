/-
  spec.RunTake over this translation: the run without the eldest value that fits, and that value; nothing that was there turns.
-/
import Derived.Test.YtefaocjcfecipaaTakeS
namespace Go.Proofs.Ytefaocjcfecipaa
open Go.ChangeShapes Go.WideShapes Go.ChangeAt Go.RowKit Go.Joins
theorem firstP_lt {kind : Int} : ∀ {M : List (Int × Int)} {k : Nat}, firstP kind M = some k → k < M.length
  | [], k, h => by cases h
  | v :: M, k, h => by
    unfold firstP at h
    split at h
    · cases h; simp
    · cases e : firstP kind M with
      | none => rw [e] at h; cases h
      | some j => rw [e] at h; cases h; have := firstP_lt e; simp; omega
theorem takeK_lt {d : RunD} {kind : Int} {k : Nat} (h : takeK d kind = some k) : k < d.mail.length := by
  unfold takeK at h
  split at h
  · exact firstP_lt h
  · cases h
set_option maxRecDepth 20000 in
set_option maxHeartbeats 4000000 in
theorem specRunTake_any (S : Nat) (d : RunD) (q : RunP) (kind : Int) (w : World) (hS : S ≤ w.heap.size) (hs : d.Short) (hk2 : d.links.length ≤ q.k2) (hk3 : d.wat.length ≤ q.k3) (hM : RunMem S w d q) :
    Calls Try.prog 19 #[d.val q, .int .i64 kind] w fun e w' => ∃ p, e = .returned (.tuple #[(takeD d kind).val p, .agg #[.int .i64 (takeV d kind).1, .int .i64 (takeV d kind).2], .bool (takeB d kind)]) ∧ OwnRun w' w.heap.size (takeD d kind) p ∧ Below w.heap.size w w' := by
  replace hs : Hid d.Short := hs
  replace hk2 : Hid (d.links.length ≤ q.k2) := hk2
  replace hk3 : Hid (d.wat.length ≤ q.k3) := hk3
  have hA : RunBoxF (w.alloc (.cells (d.cells q) 30)) w.heap.size d q := RunBoxF.new w d q 30
  have hR : RunBoxF ((w.alloc (.cells (d.cells q) 30)).alloc (.cells #[.int .i64 0, .int .i64 0, .slice none 0 0, .int .i64 0, .slice none 0 0, .int .i64 0, .int .i64 0, .slice none 0 0, .slice none 0 0, .bool false, .int .i64 0, .int .i64 0, .int .i64 0] 30)) (w.heap.size + 1) runZ runPZ := RunBoxF.new' _ _ _ _ _ _ (by simp) rfl
  have hV : ValBoxF (((w.alloc (.cells (d.cells q) 30)).alloc (.cells #[.int .i64 0, .int .i64 0, .slice none 0 0, .int .i64 0, .slice none 0 0, .int .i64 0, .int .i64 0, .slice none 0 0, .slice none 0 0, .bool false, .int .i64 0, .int .i64 0, .int .i64 0] 30)).alloc (.cells #[.int .i64 0, .int .i64 0] 24)) (w.heap.size + 1 + 1) (0, 0) := ValBoxF.new' _ (0, 0) _ _ (by simp)
  replace hA := (hA.below (S := w.heap.size + 1) (by omega) ((Below.refl _ _).alloc (by simp) (.cells #[.int .i64 0, .int .i64 0, .slice none 0 0, .int .i64 0, .slice none 0 0, .int .i64 0, .int .i64 0, .slice none 0 0, .slice none 0 0, .bool false, .int .i64 0, .int .i64 0, .int .i64 0] 30))).below (S := w.heap.size + 1) (by omega) ((Below.refl _ _).alloc (by simp <;> omega) (.cells #[.int .i64 0, .int .i64 0] 24))
  replace hR := hR.below (S := w.heap.size + 1 + 1) (by omega) ((Below.refl _ _).alloc (by simp) (.cells #[.int .i64 0, .int .i64 0] 24))
  have hB0 : Below w.heap.size w (((w.alloc (.cells (d.cells q) 30)).alloc (.cells #[.int .i64 0, .int .i64 0, .slice none 0 0, .int .i64 0, .slice none 0 0, .int .i64 0, .int .i64 0, .slice none 0 0, .slice none 0 0, .bool false, .int .i64 0, .int .i64 0, .int .i64 0] 30)).alloc (.cells #[.int .i64 0, .int .i64 0] 24)) := (((Below.refl _ _).alloc (Nat.le_refl _) _).alloc (by simp) _).alloc (by simp; omega) _
  go_enter Try.func19, Try.ntmps19
  go_wp2_with fail
  generalize (((w.alloc (.cells (d.cells q) 30)).alloc (.cells #[.int .i64 0, .int .i64 0, .slice none 0 0, .int .i64 0, .slice none 0 0, .int .i64 0, .int .i64 0, .slice none 0 0, .slice none 0 0, .bool false, .int .i64 0, .int .i64 0, .int .i64 0] 30)).alloc (.cells #[.int .i64 0, .int .i64 0] 24)) = w0 at *
  have hz0 := hV.lt
  have hM0 : RunMem S w0 d q := hM.below (hB0.mono hS)
  refine (specRunFirst_any S d q kind w0 (by omega) hs.out hk2.out hk3.out hM0).mono ?_
  rintro e w1 ⟨rfl, hb1⟩
  have hz1 := hb1.size
  replace hA := hA.below hA.lt hb1
  replace hR := hR.below hR.lt hb1
  replace hV := hV.below hV.lt hb1
  have hM1 := hM0.below (hb1.mono (by omega))
  have hB1 : Below w.heap.size w w1 := hB0.trans (hb1.mono (by omega))
  clear hb1 hM0 hM hB0
  have hl1 : w.heap.size + 1 + 1 < w1.heap.size := hV.lt
  rw [sFirst_take]
  cases hf : takeK d kind with
  | none =>
    have hfd : Hid (takeD d kind = runZ) := by show takeD d kind = runZ; unfold takeD; rw [hf]
    have hfv : Hid (takeV d kind = (0, 0)) := by show takeV d kind = _; unfold takeV; rw [hf]
    have hfb : Hid (takeB d kind = false) := by show takeB d kind = false; unfold takeB; rw [hf]; rfl
    clear hf
    obtain ⟨c0, c1, c2, c3, c4, c5, c6, c7, c8, c9, c10, c11, c12⟩ := id hA.at_
    obtain ⟨r0, r1, r2, r3, r4, r5, r6, r7, r8, r9, r10, r11, r12⟩ := id hR.at_
    obtain ⟨v0, v1⟩ := id hV.at_
    have e0 := hR.fr 0
    have e1 := hR.fr 1
    have e2 := hR.fr 2
    have e3 := hR.fr 3
    have e4 := hR.fr 4
    have e5 := hR.fr 5
    have e6 := hR.fr 6
    have e7 := hR.fr 7
    have e8 := hR.fr 8
    have e9 := hR.fr 9
    have e10 := hR.fr 10
    have e11 := hR.fr 11
    have e12 := hR.fr 12
    have g0 := hV.fr 0
    have g1 := hV.fr 1
    go_wp2_with fail
    exact bodyPost_ret (v := .tuple #[.agg #[.int .i64 0, .int .i64 0, .slice none 0 0, .int .i64 0, .slice none 0 0, .int .i64 0, .int .i64 0, .slice none 0 0, .slice none 0 0, .bool false, .int .i64 0, .int .i64 0, .int .i64 0], .agg #[.int .i64 0, .int .i64 0], .bool false]) (by simp [results, Try.results19, go_sem, r0, r1, r2, r3, r4, r5, r6, r7, r8, r9, r10, r11, r12, v0, v1]) rfl ⟨runPZ, by rw [hfd.out, hfv.out, hfb.out]; rfl, by rw [hfd.out]; exact own_runZ _ _, (((((((((((((((hB1.setCell (by show w.heap.size ≤ w.heap.size + 1; omega) _).setCell (by show w.heap.size ≤ w.heap.size + 1; omega) _).setCell (by show w.heap.size ≤ w.heap.size + 1; omega) _).setCell (by show w.heap.size ≤ w.heap.size + 1; omega) _).setCell (by show w.heap.size ≤ w.heap.size + 1; omega) _).setCell (by show w.heap.size ≤ w.heap.size + 1; omega) _).setCell (by show w.heap.size ≤ w.heap.size + 1; omega) _).setCell (by show w.heap.size ≤ w.heap.size + 1; omega) _).setCell (by show w.heap.size ≤ w.heap.size + 1; omega) _).setCell (by show w.heap.size ≤ w.heap.size + 1; omega) _).setCell (by show w.heap.size ≤ w.heap.size + 1; omega) _).setCell (by show w.heap.size ≤ w.heap.size + 1; omega) _).setCell (by show w.heap.size ≤ w.heap.size + 1; omega) _).setCell (by show w.heap.size ≤ w.heap.size + 1 + 1; omega) _).setCell (by show w.heap.size ≤ w.heap.size + 1 + 1; omega) _)⟩
  | some k =>
    have hk : k < d.mail.length := takeK_lt hf
    obtain ⟨M', hM'⟩ : ∃ M', M' = d.mail.take k ++ d.mail.drop (k + 1) := ⟨_, rfl⟩
    have hfd : Hid (takeD d kind = ({ d with mail := M' } : RunD)) := by show takeD d kind = _; unfold takeD; rw [hf, hM']
    have hfv : Hid (takeV d kind = d.mail[k]) := by show takeV d kind = _; unfold takeV; rw [hf]; simp [List.getD, hk]
    have hfb : Hid (takeB d kind = true) := by show takeB d kind = true; unfold takeB; rw [hf]; rfl
    clear hf
    obtain ⟨c0, c1, c2, c3, c4, c5, c6, c7, c8, c9, c10, c11, c12⟩ := id hA.at_
    go_wp2_with fail
    clear c0 c1 c2 c3 c4 c5 c6 c7 c8 c9 c10 c11 c12
    refine (l11Copy_any S d q w1 (by omega) hs.out hM1).mono ?_
    rintro e w2 ⟨p2, rfl, ho2, hb2⟩
    have hz2 := hb2.size
    replace hR := hR.below hR.lt hb2
    replace hV := hV.below hV.lt hb2
    have hB2 : Below w.heap.size w w2 := hB1.trans (hb2.mono (by omega))
    clear hb2 hM1 hB1 hA
    go_wp2_with fail
    have hlt := l11Take_any w1.heap.size d p2 k w2 hs.out hk ho2
    rw [← hM'] at hlt
    generalize d.mail[k] = x at *
    replace hM' : Hid (M' = d.mail.take k ++ d.mail.drop (k + 1)) := hM'
    refine hlt.mono ?_
    rintro e w3 ⟨p3, rfl, ho3, hb3⟩
    have hz3 := hb3.size
    replace hR := hR.below hR.lt hb3
    replace hV := hV.below hV.lt hb3
    have hB3 : Below w.heap.size w w3 := hB2.trans (hb3.mono (by omega))
    clear hb3 hB2 hlt ho2
    go_wp2_with fail
    have hL : RunBoxF (w3.alloc (.cells (({ d with mail := M' } : RunD).cells p3) 30)) w3.heap.size ({ d with mail := M' } : RunD) p3 := RunBoxF.new _ _ _ _
    have hX : ValBoxF ((w3.alloc (.cells (({ d with mail := M' } : RunD).cells p3) 30)).alloc (.cells #[.int .i64 x.1, .int .i64 x.2] 24)) (w3.heap.size + 1) x := ValBoxF.new' _ _ _ _ (by simp)
    have hal : Below w3.heap.size w3 ((w3.alloc (.cells (({ d with mail := M' } : RunD).cells p3) 30)).alloc (.cells #[.int .i64 x.1, .int .i64 x.2] 24)) := ((Below.refl _ _).alloc (Nat.le_refl _) _).alloc (by simp) _
    replace hL := hL.below (S := w3.heap.size + 1) (by omega) ((Below.refl _ _).alloc (by simp) (.cells #[.int .i64 x.1, .int .i64 x.2] 24))
    replace hR := hR.below hR.lt hal
    replace hV := hV.below hV.lt hal
    replace ho3 := ho3.below hal
    have hB9 := hB3.trans (hal.mono (by omega))
    have hz9 := hal.size
    have hlv : w.heap.size + 1 + 1 < w3.heap.size := by omega
    clear hal hB3
    generalize hb3e : w3.heap.size = b3 at *
    generalize ((w3.alloc (.cells (({ d with mail := M' } : RunD).cells p3) 30)).alloc (.cells #[.int .i64 x.1, .int .i64 x.2] 24)) = W9 at *
    obtain ⟨c0, c1, c2, c3, c4, c5, c6, c7, c8, c9, c10, c11, c12⟩ := id hL.at_
    obtain ⟨r0, r1, r2, r3, r4, r5, r6, r7, r8, r9, r10, r11, r12⟩ := id hR.at_
    obtain ⟨v0, v1⟩ := id hV.at_
    have e0 := hR.fr 0
    have e1 := hR.fr 1
    have e2 := hR.fr 2
    have e3 := hR.fr 3
    have e4 := hR.fr 4
    have e5 := hR.fr 5
    have e6 := hR.fr 6
    have e7 := hR.fr 7
    have e8 := hR.fr 8
    have e9 := hR.fr 9
    have e10 := hR.fr 10
    have e11 := hR.fr 11
    have e12 := hR.fr 12
    have g0 := hV.fr 0
    have g1 := hV.fr 1
    obtain ⟨x0, x1⟩ := id hX.at_
    have hq0 : w.heap.size + 1 < W9.heap.size := hR.lt
    have hq1 : w.heap.size + 1 + 1 < W9.heap.size := hV.lt
    have hq2 : b3 < W9.heap.size := hL.lt
    have hq3 : b3 + 1 < W9.heap.size := hX.lt
    have hq4 : w.heap.size + 1 ≠ b3 + 1 := by omega
    have hq5 : w.heap.size + 1 + 1 ≠ b3 + 1 := by omega
    have hn1 := ho3.not_box (b := w.heap.size + 1) (.inl (by omega))
    have hn2 := ho3.not_box (b := w.heap.size + 1 + 1) (.inl (by omega))
    go_region
    go_step
    go_wp2_with fail
    have h13 := set13_but W9 (w.heap.size + 1) ({ d with mail := M' } : RunD) p3
    have h2 : But (w.heap.size + 1 + 1) (set13 W9 (w.heap.size + 1) ({ d with mail := M' } : RunD) p3) (((set13 W9 (w.heap.size + 1) ({ d with mail := M' } : RunD) p3).setCell ⟨w.heap.size + 1 + 1, 0, none⟩ (.int .i64 x.1)).setCell ⟨w.heap.size + 1 + 1, 1, none⟩ (.int .i64 x.2)) := ((But.refl _ _).setCell (p := ⟨w.heap.size + 1 + 1, 0, none⟩) rfl _).setCell (p := ⟨w.heap.size + 1 + 1, 1, none⟩) rfl _
    have h13z := h13.size
    have hfo := (((ho3.but h13 hn1.1 hn1.2.1 hn1.2.2.1 hn1.2.2.2).but h2 hn2.1 hn2.2.1 hn2.2.2.1 hn2.2.2.2).mono (A := w.heap.size) (by omega)).drew
    have hfB : Below w.heap.size w _ := ((hB9.trans (h13.below (B := w.heap.size) (by omega) (by omega))).trans (h2.below (B := w.heap.size) (by omega) (by omega))).drew
    exact bodyPost_ret (v := .tuple #[({ d with mail := M' } : RunD).val p3, .agg #[.int .i64 x.1, .int .i64 x.2], .bool true]) (by simp [results, Try.results19, go_sem, r0, r1, r2, r3, r4, r5, r6, r7, r8, r9, r10, r11, r12, v0, v1]) rfl ⟨p3, by rw [hfd.out, hfv.out, hfb.out], by rw [hfd.out]; exact hfo, hfB⟩
end Go.Proofs.Ytefaocjcfecipaa
