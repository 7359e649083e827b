/-
  impl.RunTake over this translation: the run without the eldest value that fits, and that value; nothing that was there turns.
-/
import Derived.Test.YtefaocjcfecipaaLetters
import Derived.Test.YtefaocjcfecipaaFirstI
import Derived.Deep.RegionHeld3
namespace Go.Proofs.Ytefaocjcfecipaa
open Go.ChangeShapes Go.WideShapes Go.ChangeAt Go.RowKit Go.Joins
open AH
/-- the place of the value that is taken -/
def takeK (d : RunD) (kind : Int) : Option Nat := if specB d = true ∧ (0 ≤ kind ∧ kind ≤ 3) then firstP kind d.mail else none
/-- the run that is left, the value, and whether there was one -/
def takeD (d : RunD) (kind : Int) : RunD := match takeK d kind with
  | some k => { d with mail := d.mail.take k ++ d.mail.drop (k + 1) }
  | none => runZ
def takeV (d : RunD) (kind : Int) : Int × Int := match takeK d kind with
  | some k => d.mail.getD k (0, 0)
  | none => (0, 0)
def takeB (d : RunD) (kind : Int) : Bool := (takeK d kind).isSome
theorem sFirst_take (d : RunD) (kind : Int) : sFirst d kind = (match takeK d kind with | some k => ((k : Int), true) | none => (0, false)) := by
  unfold sFirst takeK
  split <;> rfl
theorem takeK_some {d : RunD} {kind : Int} {k : Nat} (h : sFirst d kind = ((k : Int), true)) : takeK d kind = some k := by
  rw [sFirst_take] at h
  cases e : takeK d kind with
  | none => rw [e] at h; cases h
  | some j => rw [e] at h; have e1 : (j : Int) = (k : Int) := congrArg Prod.fst h; have e2 : j = k := (by omega); rw [e2]
theorem takeK_none {d : RunD} {kind : Int} (h : sFirst d kind = (0, false)) : takeK d kind = none := by
  rw [sFirst_take] at h
  cases e : takeK d kind with
  | none => rfl
  | some j => rw [e] at h; have := congrArg Prod.snd h; cases this
/-- a value's own cells in memory, which may be written -/
structure ValBoxF (w : World) (b : Nat) (x : Int × Int) : Prop where
  at_ : ValAt w b 0 x
  fr : ∀ i, w.frozen? ⟨b, i, none⟩ = false
  lt : b < w.heap.size
theorem ValBoxF.below {S : Nat} {w w' : World} {b : Nat} {x : Int × Int} (h : ValBoxF w b x) (hl : b < S) (hb : Below S w w') : ValBoxF w' b x :=
  ⟨h.at_.below hl hb, fun i => (hb.frozen (p := ⟨b, i, none⟩) hl).trans (h.fr i), Nat.lt_of_lt_of_le h.lt hb.size⟩
theorem ValBoxF.new' (w : World) (x : Int × Int) (t : TypeId) (b : Nat) (hb : b = w.heap.size) : ValBoxF (w.alloc (.cells #[.int .i64 x.1, .int .i64 x.2] t)) b x := by
  subst hb; exact ⟨⟨by simp [go_sem], by simp [go_sem]⟩, fun i => by simp [go_sem], by simp⟩
theorem ValBoxF.but {R : Nat} {w w' : World} {b : Nat} {x : Int × Int} (h : ValBoxF w b x) (hn : b ≠ R) (k : But R w w') : ValBoxF w' b x :=
  ⟨⟨(k.cell (p := ⟨b, 0, none⟩) h.lt hn).trans h.at_.1, (k.cell (p := ⟨b, 0 + 1, none⟩) h.lt hn).trans h.at_.2⟩, fun i => (k.frozen (p := ⟨b, i, none⟩) h.lt hn).trans (h.fr i), Nat.lt_of_lt_of_le h.lt k.size⟩
theorem RunBoxF.but {R : Nat} {w w' : World} {b : Nat} {d : RunD} {p : RunP} (h : RunBoxF w b d p) (hn : b ≠ R) (k : But R w w') : RunBoxF w' b d p := by
  have c : ∀ i, w'.cell? ⟨b, i, none⟩ = w.cell? ⟨b, i, none⟩ := fun i => k.cell (p := ⟨b, i, none⟩) h.lt hn
  exact ⟨⟨(c _).trans h.at_.c0, (c _).trans h.at_.c1, (c _).trans h.at_.c2, (c _).trans h.at_.c3, (c _).trans h.at_.c4, (c _).trans h.at_.c5, (c _).trans h.at_.c6, (c _).trans h.at_.c7, (c _).trans h.at_.c8, (c _).trans h.at_.c9, (c _).trans h.at_.c10, (c _).trans h.at_.c11, (c _).trans h.at_.c12⟩, fun i => (k.frozen (p := ⟨b, i, none⟩) h.lt hn).trans (h.fr i), Nat.lt_of_lt_of_le h.lt k.size⟩
set_option maxRecDepth 20000 in
set_option maxHeartbeats 4000000 in
theorem implRunTake_any (S : Nat) (d : RunD) (q : RunP) (kind : Int) (w : World) (hS : S ≤ w.heap.size) (hs : d.Short) (hk2 : d.links.length ≤ q.k2) (hk3 : d.wat.length ≤ q.k3) (hM : RunMem S w d q) :
    Calls Try.prog 20 #[d.val q, .int .i64 kind] w fun e w' => ∃ p, e = .returned (.tuple #[(takeD d kind).val p, .agg #[.int .i64 (takeV d kind).1, .int .i64 (takeV d kind).2], .bool (takeB d kind)]) ∧ OwnRun w' w.heap.size (takeD d kind) p ∧ Below w.heap.size w w' := by
  replace hs : Hid d.Short := hs
  replace hk2 : Hid (d.links.length ≤ q.k2) := hk2
  replace hk3 : Hid (d.wat.length ≤ q.k3) := hk3
  have hA : RunBoxF (w.alloc (.cells (d.cells q) 30)) w.heap.size d q := RunBoxF.new w d q 30
  have hR : RunBoxF ((w.alloc (.cells (d.cells q) 30)).alloc (.cells #[.int .i64 0, .int .i64 0, .slice none 0 0, .int .i64 0, .slice none 0 0, .int .i64 0, .int .i64 0, .slice none 0 0, .slice none 0 0, .bool false, .int .i64 0, .int .i64 0, .int .i64 0] 30)) (w.heap.size + 1) runZ runPZ := RunBoxF.new' _ _ _ _ _ _ (by simp) rfl
  have hV : ValBoxF (((w.alloc (.cells (d.cells q) 30)).alloc (.cells #[.int .i64 0, .int .i64 0, .slice none 0 0, .int .i64 0, .slice none 0 0, .int .i64 0, .int .i64 0, .slice none 0 0, .slice none 0 0, .bool false, .int .i64 0, .int .i64 0, .int .i64 0] 30)).alloc (.cells #[.int .i64 0, .int .i64 0] 24)) (w.heap.size + 1 + 1) (0, 0) := ValBoxF.new' _ (0, 0) _ _ (by simp)
  replace hA := (hA.below (S := w.heap.size + 1) (by omega) ((Below.refl _ _).alloc (by simp) (.cells #[.int .i64 0, .int .i64 0, .slice none 0 0, .int .i64 0, .slice none 0 0, .int .i64 0, .int .i64 0, .slice none 0 0, .slice none 0 0, .bool false, .int .i64 0, .int .i64 0, .int .i64 0] 30))).below (S := w.heap.size + 1) (by omega) ((Below.refl _ _).alloc (by simp <;> omega) (.cells #[.int .i64 0, .int .i64 0] 24))
  replace hR := hR.below (S := w.heap.size + 1 + 1) (by omega) ((Below.refl _ _).alloc (by simp) (.cells #[.int .i64 0, .int .i64 0] 24))
  have hB0 : Below w.heap.size w (((w.alloc (.cells (d.cells q) 30)).alloc (.cells #[.int .i64 0, .int .i64 0, .slice none 0 0, .int .i64 0, .slice none 0 0, .int .i64 0, .int .i64 0, .slice none 0 0, .slice none 0 0, .bool false, .int .i64 0, .int .i64 0, .int .i64 0] 30)).alloc (.cells #[.int .i64 0, .int .i64 0] 24)) := (((Below.refl _ _).alloc (Nat.le_refl _) _).alloc (by simp) _).alloc (by simp; omega) _
  go_enter Try.func20, Try.ntmps20
  go_wp2_with fail
  generalize (((w.alloc (.cells (d.cells q) 30)).alloc (.cells #[.int .i64 0, .int .i64 0, .slice none 0 0, .int .i64 0, .slice none 0 0, .int .i64 0, .int .i64 0, .slice none 0 0, .slice none 0 0, .bool false, .int .i64 0, .int .i64 0, .int .i64 0] 30)).alloc (.cells #[.int .i64 0, .int .i64 0] 24)) = w0 at *
  have hz0 := hV.lt
  have hM0 : RunMem S w0 d q := hM.below (hB0.mono hS)
  refine (implRunOk_any S d q w0 (by omega) hs.out hk2.out hk3.out hM0).mono ?_
  rintro e w1 ⟨rfl, hb1⟩
  have hz1 := hb1.size
  replace hA := hA.below hA.lt hb1
  replace hR := hR.below hR.lt hb1
  replace hV := hV.below hV.lt hb1
  have hM1 := hM0.below (hb1.mono (by omega))
  have hB1 : Below w.heap.size w w1 := hB0.trans (hb1.mono (by omega))
  clear hb1 hM0 hM hB0
  obtain ⟨c0, c1, c2, c3, c4, c5, c6, c7, c8, c9, c10, c11, c12⟩ := id hA.at_
  obtain ⟨r0, r1, r2, r3, r4, r5, r6, r7, r8, r9, r10, r11, r12⟩ := id hR.at_
  obtain ⟨v0, v1⟩ := id hV.at_
  have e0 := hR.fr 0
  have e1 := hR.fr 1
  have e2 := hR.fr 2
  have e3 := hR.fr 3
  have e4 := hR.fr 4
  have e5 := hR.fr 5
  have e6 := hR.fr 6
  have e7 := hR.fr 7
  have e8 := hR.fr 8
  have e9 := hR.fr 9
  have e10 := hR.fr 10
  have e11 := hR.fr 11
  have e12 := hR.fr 12
  have g0 := hV.fr 0
  have g1 := hV.fr 1
  have hl1 : w.heap.size + 1 + 1 < w1.heap.size := hV.lt
  cases h1 : runB d with
  | false =>
    have hf : takeK d kind = none := takeK_none (if_neg (by unfold specB; rw [h1]; simp))
    have hfd : Hid (takeD d kind = runZ) := by show takeD d kind = runZ; unfold takeD; rw [hf]
    have hfv : Hid (takeV d kind = (0, 0)) := by show takeV d kind = _; unfold takeV; rw [hf]
    have hfb : Hid (takeB d kind = false) := by show takeB d kind = false; unfold takeB; rw [hf]; rfl
    --FALSE
    go_wp2_with fail
    exact bodyPost_ret (v := .tuple #[.agg #[.int .i64 0, .int .i64 0, .slice none 0 0, .int .i64 0, .slice none 0 0, .int .i64 0, .int .i64 0, .slice none 0 0, .slice none 0 0, .bool false, .int .i64 0, .int .i64 0, .int .i64 0], .agg #[.int .i64 0, .int .i64 0], .bool false]) (by simp [results, Try.results20, go_sem, r0, r1, r2, r3, r4, r5, r6, r7, r8, r9, r10, r11, r12, v0, v1]) rfl ⟨runPZ, by rw [hfd.out, hfv.out, hfb.out]; rfl, by rw [hfd.out]; exact own_runZ _ _, (((((((((((((((hB1.setCell (by show w.heap.size ≤ w.heap.size + 1; omega) _).setCell (by show w.heap.size ≤ w.heap.size + 1; omega) _).setCell (by show w.heap.size ≤ w.heap.size + 1; omega) _).setCell (by show w.heap.size ≤ w.heap.size + 1; omega) _).setCell (by show w.heap.size ≤ w.heap.size + 1; omega) _).setCell (by show w.heap.size ≤ w.heap.size + 1; omega) _).setCell (by show w.heap.size ≤ w.heap.size + 1; omega) _).setCell (by show w.heap.size ≤ w.heap.size + 1; omega) _).setCell (by show w.heap.size ≤ w.heap.size + 1; omega) _).setCell (by show w.heap.size ≤ w.heap.size + 1; omega) _).setCell (by show w.heap.size ≤ w.heap.size + 1; omega) _).setCell (by show w.heap.size ≤ w.heap.size + 1; omega) _).setCell (by show w.heap.size ≤ w.heap.size + 1; omega) _).setCell (by show w.heap.size ≤ w.heap.size + 1 + 1; omega) _).setCell (by show w.heap.size ≤ w.heap.size + 1 + 1; omega) _)⟩
  | true =>
    replace h1 : Hid (runB d = true) := h1
    go_wp2_with fail
    clear c0 c1 c2 c3 c4 c5 c6 c7 c8 c9 c10 c11 c12 r0 r1 r2 r3 r4 r5 r6 r7 r8 r9 r10 r11 r12 v0 v1 e0 e1 e2 e3 e4 e5 e6 e7 e8 e9 e10 e11 e12 g0 g1
    refine (chainOf_allF S d.mail _ w1 (by omega) hs.out.s1 hM1.m1).mono ?_
    rintro e w2 ⟨rfl, ⟨l, hG, hlw, hn⟩, hfz, hb2⟩
    have hz2 := hb2.size
    replace hA := hA.below hA.lt hb2
    replace hR := hR.below hR.lt hb2
    replace hV := hV.below hV.lt hb2
    have hM2 := hM1.below (hb2.mono (by omega))
    have hB2 : Below w.heap.size w w2 := hB1.trans (hb2.mono (by omega))
    clear hb2 hM1 hB1
    replace hG : Hid (Seg w2 w1.heap.size d.mail l) := hG
    replace hn : Hid (w2.cell? ⟨l, 2, none⟩ = some (.pointer none)) := hn
    replace hfz : Hid (∀ b o, w1.heap.size ≤ b → w2.frozen? ⟨b, o, none⟩ = false) := hfz
    go_wp2_with fail
    refine (aheadOf_any w1.heap.size l d.mail kind w2 hs.out.s1 hG.out hlw hn.out).mono ?_
    rintro e w3 ⟨hAh, hb3⟩
    have hz3 := hb3.size
    replace hA := hA.below hA.lt hb3
    replace hR := hR.below hR.lt hb3
    replace hV := hV.below hV.lt hb3
    have hM3 := hM2.below (hb3.mono (by omega))
    have hB3 : Below w.heap.size w w3 := hB2.trans (hb3.mono (by omega))
    have hn3 : Hid (w3.cell? ⟨l, 2, none⟩ = some (.pointer none)) := (hb3.cell (p := ⟨l, 2, none⟩) hlw).trans hn.out
    have hf3 : Hid (∀ b o, w1.heap.size ≤ b → b < w2.heap.size → w3.frozen? ⟨b, o, none⟩ = false) := fun b o h h' => (hb3.frozen (p := ⟨b, o, none⟩) h').trans (hfz.out b o h)
    have hk3' : Hid (∀ p : Addr, p.block ≤ l → w3.cell? p = w2.cell? p) := fun p hp => hb3.cell (p := p) (by omega)
    clear hb3 hM2 hB2 hn hfz hG
    have hl1' : w.heap.size + 1 + 1 < w3.heap.size := hV.lt
    rcases hAh with ⟨k, ab, hk, rfl, hT, hD, hy, hu⟩ | ⟨rfl, hu⟩
    case inr =>
      have hf : takeK d kind = none := takeK_none (first_none h1.out hu)
      have hfd : Hid (takeD d kind = runZ) := by show takeD d kind = runZ; unfold takeD; rw [hf]
      have hfv : Hid (takeV d kind = (0, 0)) := by show takeV d kind = _; unfold takeV; rw [hf]
      have hfb : Hid (takeB d kind = false) := by show takeB d kind = false; unfold takeB; rw [hf]; rfl
      clear hu hf
      obtain ⟨c0, c1, c2, c3, c4, c5, c6, c7, c8, c9, c10, c11, c12⟩ := id hA.at_
      obtain ⟨r0, r1, r2, r3, r4, r5, r6, r7, r8, r9, r10, r11, r12⟩ := id hR.at_
      obtain ⟨v0, v1⟩ := id hV.at_
      have e0 := hR.fr 0
      have e1 := hR.fr 1
      have e2 := hR.fr 2
      have e3 := hR.fr 3
      have e4 := hR.fr 4
      have e5 := hR.fr 5
      have e6 := hR.fr 6
      have e7 := hR.fr 7
      have e8 := hR.fr 8
      have e9 := hR.fr 9
      have e10 := hR.fr 10
      have e11 := hR.fr 11
      have e12 := hR.fr 12
      have g0 := hV.fr 0
      have g1 := hV.fr 1
      go_wp2_with fail
      exact bodyPost_ret (v := .tuple #[.agg #[.int .i64 0, .int .i64 0, .slice none 0 0, .int .i64 0, .slice none 0 0, .int .i64 0, .int .i64 0, .slice none 0 0, .slice none 0 0, .bool false, .int .i64 0, .int .i64 0, .int .i64 0], .agg #[.int .i64 0, .int .i64 0], .bool false]) (by simp [results, Try.results20, go_sem, r0, r1, r2, r3, r4, r5, r6, r7, r8, r9, r10, r11, r12, v0, v1]) rfl ⟨runPZ, by rw [hfd.out, hfv.out, hfb.out]; rfl, by rw [hfd.out]; exact own_runZ _ _, (((((((((((((((hB3.setCell (by show w.heap.size ≤ w.heap.size + 1; omega) _).setCell (by show w.heap.size ≤ w.heap.size + 1; omega) _).setCell (by show w.heap.size ≤ w.heap.size + 1; omega) _).setCell (by show w.heap.size ≤ w.heap.size + 1; omega) _).setCell (by show w.heap.size ≤ w.heap.size + 1; omega) _).setCell (by show w.heap.size ≤ w.heap.size + 1; omega) _).setCell (by show w.heap.size ≤ w.heap.size + 1; omega) _).setCell (by show w.heap.size ≤ w.heap.size + 1; omega) _).setCell (by show w.heap.size ≤ w.heap.size + 1; omega) _).setCell (by show w.heap.size ≤ w.heap.size + 1; omega) _).setCell (by show w.heap.size ≤ w.heap.size + 1; omega) _).setCell (by show w.heap.size ≤ w.heap.size + 1; omega) _).setCell (by show w.heap.size ≤ w.heap.size + 1; omega) _).setCell (by show w.heap.size ≤ w.heap.size + 1 + 1; omega) _).setCell (by show w.heap.size ≤ w.heap.size + 1 + 1; omega) _)⟩
    have hf : takeK d kind = some k := takeK_some (first_some h1.out hk hy hu)
    obtain ⟨M', hM'⟩ : ∃ M', M' = d.mail.take k ++ d.mail.drop (k + 1) := ⟨_, rfl⟩
    have hml : Hid (M'.length ≤ 1048576) := by show _ ≤ _; have := hs.out.s1; rw [hM', List.length_append, List.length_take, List.length_drop]; omega
    have hfd : Hid (takeD d kind = { d with mail := M' }) := by show takeD d kind = _; unfold takeD; rw [hf, hM']
    have hfv : Hid (takeV d kind = d.mail[k]) := by show takeV d kind = _; unfold takeV; rw [hf]; simp [List.getD, hk]
    have hfb : Hid (takeB d kind = true) := by show takeB d kind = true; unfold takeB; rw [hf]; rfl
    have hle := hT.le
    rw [List.drop_eq_getElem_cons hk] at hD
    obtain ⟨c, hac, hp, hv, hD⟩ := hD
    have hcl := hD.le
    have hT3 : Seg w3 w1.heap.size (d.mail.take k) ab := hT.same fun p hp => hk3'.out p (by omega)
    have hD3 : Seg w3 c (d.mail.drop (k + 1)) l := hD.same fun p hp => hk3'.out p hp
    have hp3 : w3.cell? ⟨ab, 2, none⟩ = some (.pointer (some ⟨c, 0, none⟩)) := (hk3'.out ⟨ab, 2, none⟩ (by show ab ≤ l; omega)).trans hp
    have hv3 : ValAt w3 c 0 d.mail[k] := ⟨(hk3'.out ⟨c, 0, none⟩ hcl).trans hv.1, (hk3'.out ⟨c, 0 + 1, none⟩ hcl).trans hv.2⟩
    obtain ⟨po, hpc⟩ : ∃ po, w3.cell? ⟨c, 2, none⟩ = some (.pointer po) := by
      match hx : d.mail.drop (k + 1), hD3 with
      | [], hD3 => have e : c = l := hD3; rw [e]; exact ⟨_, hn3.out⟩
      | _ :: _, ⟨_, _, g1, _⟩ => exact ⟨_, g1⟩
    have hfab : w3.frozen? ⟨ab, 2, none⟩ = false := hf3.out ab 2 hle (by omega)
    generalize d.mail[k] = x at *
    clear hf hy hu hk hT hp hv hD hf3 hk3'
    replace hT3 : Hid (Seg w3 w1.heap.size (d.mail.take k) ab) := hT3
    replace hD3 : Hid (Seg w3 c (d.mail.drop (k + 1)) l) := hD3
    replace hM' : Hid (M' = d.mail.take k ++ d.mail.drop (k + 1)) := hM'
    go_wp2_with fail
    refine (takeNext_any ab c x po w3 hac (by omega) hp3 hv3 hpc hfab).mono ?_
    rintro e w4 ⟨rfl, hk4, hp4, hbt⟩
    have hz4 := hbt.size
    replace hA := hA.but (by omega) hbt
    replace hR := hR.but (by omega) hbt
    replace hV := hV.but (by omega) hbt
    have hM4 := hM3.below (hbt.below (B := S) (by omega) (by omega))
    have hB4 : Below w.heap.size w w4 := hB3.trans (hbt.below (by omega) (by omega))
    obtain ⟨l4, hG4, hl4, hn4⟩ := Seg.without hT3.out hac hD3.out hn3.out (fun a b ha hb => hk4 a b (by omega) hb) (hp4.trans hpc.symm)
    rw [← hM'.out] at hG4
    clear hk4 hp4 hbt hT3 hD3 hp3 hv3 hpc hfab hn3 hM3 hB3
    replace hG4 : Hid (Seg w4 w1.heap.size M' l4) := hG4
    replace hn4 : Hid (w4.cell? ⟨l4, 2, none⟩ = some (.pointer none)) := hn4
    have hl4' : w.heap.size + 1 + 1 < w4.heap.size := hV.lt
    have hlo4 : w.heap.size < w4.heap.size := hA.lt
    obtain ⟨c0, c1, c2, c3, c4, c5, c6, c7, c8, c9, c10, c11, c12⟩ := id hA.at_
    go_wp2_with fail
    clear c0 c1 c2 c3 c4 c5 c6 c7 c8 c9 c10 c11 c12
    have hX : ValBoxF (w4.alloc (.cells #[.int .i64 x.1, .int .i64 x.2] 24)) w4.heap.size x := ValBoxF.new' _ _ _ _ rfl
    have hal : Below w4.heap.size w4 (w4.alloc (.cells #[.int .i64 x.1, .int .i64 x.2] 24)) := (Below.refl _ _).alloc (Nat.le_refl _) _
    replace hA := hA.below hA.lt hal
    replace hR := hR.below hR.lt hal
    replace hV := hV.below hV.lt hal
    have hM5 := hM4.below (hal.mono (by omega))
    have hB5 : Below w.heap.size w (w4.alloc (.cells #[.int .i64 x.1, .int .i64 x.2] 24)) := hB4.trans (hal.mono (by omega))
    have hz5 := hal.size
    have hG5 : Hid (Seg (w4.alloc (.cells #[.int .i64 x.1, .int .i64 x.2] 24)) w1.heap.size M' l4) := hG4.out.same fun p hp => hal.cell (p := p) (by omega)
    have hn5 : Hid ((w4.alloc (.cells #[.int .i64 x.1, .int .i64 x.2] 24)).cell? ⟨l4, 2, none⟩ = some (.pointer none)) := (hal.cell (p := ⟨l4, 2, none⟩) (by show l4 < _; omega)).trans hn4.out
    clear hG4 hn4 hM4 hB4 hal
    generalize hx4 : w4.heap.size = b4 at *
    generalize (w4.alloc (.cells #[.int .i64 x.1, .int .i64 x.2] 24)) = w5 at *
    have hb45 : b4 < w5.heap.size := hX.lt
    refine (copied_any S d q w5 (by omega) hs.out hM5).mono ?_
    rintro e w6 ⟨p6, rfl, ho6, hb6⟩
    have hz6 := hb6.size
    replace hA := hA.below hA.lt hb6
    replace hR := hR.below hR.lt hb6
    replace hV := hV.below hV.lt hb6
    replace hX := hX.below hX.lt hb6
    have hB6 : Below w.heap.size w w6 := hB5.trans (hb6.mono (by omega))
    have hG6 : Hid (Seg w6 w1.heap.size M' l4) := hG5.out.same fun p hp => hb6.cell (p := p) (by omega)
    have hn6 : Hid (w6.cell? ⟨l4, 2, none⟩ = some (.pointer none)) := (hb6.cell (p := ⟨l4, 2, none⟩) (by show l4 < _; omega)).trans hn5.out
    clear hG5 hn5 hM5 hB5 hb6
    go_wp2_with fail
    have hL : RunBoxF (w6.alloc (.cells (d.cells p6) 30)) w6.heap.size d p6 := RunBoxF.new _ _ _ _
    have hal : Below w6.heap.size w6 (w6.alloc (.cells (d.cells p6) 30)) := (Below.refl _ _).alloc (Nat.le_refl _) _
    replace hA := hA.below hA.lt hal
    replace hR := hR.below hR.lt hal
    replace hV := hV.below hV.lt hal
    replace hX := hX.below hX.lt hal
    have hnb := ho6.not_box (b := w6.heap.size) (.inr (Nat.le_refl _))
    replace ho6 := ho6.below hal
    have hB7 : Below w.heap.size w (w6.alloc (.cells (d.cells p6) 30)) := hB6.trans (hal.mono (by omega))
    have hz7 := hal.size
    have hG7 : Hid (Seg (w6.alloc (.cells (d.cells p6) 30)) w1.heap.size M' l4) := hG6.out.same fun p hp => hal.cell (p := p) (by omega)
    have hn7 : Hid ((w6.alloc (.cells (d.cells p6) 30)).cell? ⟨l4, 2, none⟩ = some (.pointer none)) := (hal.cell (p := ⟨l4, 2, none⟩) (by show l4 < _; omega)).trans hn6.out
    clear hG6 hn6 hB6 hal
    generalize hx6 : w6.heap.size = b6 at *
    generalize (w6.alloc (.cells (d.cells p6) 30)) = w7 at *
    refine (behind_any w1.heap.size l4 M' w7 hml.out hG7.out (by omega) hn7.out).mono ?_
    rintro e w8 ⟨a8, k8, rfl, o8, hb8⟩
    have hz8 := hb8.size
    replace hA := hA.below hA.lt hb8
    replace hR := hR.below hR.lt hb8
    replace hV := hV.below hV.lt hb8
    replace hX := hX.below hX.lt hb8
    have hll7 := hL.lt
    replace hL := hL.below hL.lt hb8
    have hlow : ∀ (v : Value) k, (∀ k, v.ownBlock = some k → k < w7.heap.size) → v.ownBlock = some k → (Value.slice a8 M'.length k8).ownBlock ≠ some k := fun v k h e e2 => by
      have := World.ownsRow.lt o8 k e2; have := h k e; omega
    have y0 : Apart (d.v0 p6) (.slice a8 M'.length k8) := fun k e => hlow _ k (fun k e => (World.ownsRow.lt ho6.o0 k e).2) e
    have y2 : Apart (d.v2 p6) (.slice a8 M'.length k8) := fun k e => hlow _ k (fun k e => (World.ownsRow.lt ho6.o2 k e).2) e
    have y3 : Apart (d.v3 p6) (.slice a8 M'.length k8) := fun k e => hlow _ k (fun k e => (World.ownsRow.lt ho6.o3 k e).2) e
    replace ho6 := ho6.below hb8
    have hB8 : Below w.heap.size w w8 := hB7.trans (hb8.mono (by omega))
    clear hG7 hn7 hB7 hb8 hlow
    have hll := hL.lt
    have ho9 : OwnRun w8 w5.heap.size { d with mail := M' } { p6 with a1 := a8, k1 := k8 } := ⟨ho6.o0.mono (by omega), o8.mono (by omega), ho6.o2.mono (by omega), ho6.o3.mono (by omega), y0, ho6.x02, ho6.x03, y2.symm, y3.symm, ho6.x23⟩
    have nb0 := hnb.1
    have nb2 := hnb.2.2.1
    have nb3 := hnb.2.2.2
    have nb1 : (Value.slice a8 M'.length k8).ownBlock ≠ some b6 := fun e => by have := World.ownsRow.lt o8 b6 e; omega
    clear hnb y0 y2 y3
    have u4 := hL.at_.c4
    have uf4 := hL.fr 4
    go_wp2_with fail
    have hs4 : But b6 w8 (w8.setCell ⟨b6, 4, none⟩ (.slice a8 M'.length k8)) := (But.refl _ _).setCell (p := ⟨b6, 4, none⟩) rfl _
    replace ho9 := ho9.but hs4 nb0 nb1 nb2 nb3
    have hw5 := hX.lt
    replace hR := hR.but (by omega) hs4
    replace hV := hV.but (by omega) hs4
    replace hX := hX.but (by omega) hs4
    replace hL := hL.put4 M' a8 k8
    have hB9 := hB8.trans (hs4.below (B := w.heap.size) (by omega) (by omega))
    have hz9 := hs4.size
    clear hs4 hA hB8 ho6 o8 u4 uf4
    generalize (w8.setCell ⟨b6, 4, none⟩ (.slice a8 M'.length k8)) = w9 at *
    obtain ⟨P9, hP9⟩ : ∃ P9 : RunP, P9 = { p6 with a1 := a8, k1 := k8 } := ⟨_, rfl⟩
    rw [← hP9] at ho9 hL
    clear hP9
    obtain ⟨c0, c1, c2, c3, c4, c5, c6, c7, c8, c9, c10, c11, c12⟩ := id hL.at_
    obtain ⟨r0, r1, r2, r3, r4, r5, r6, r7, r8, r9, r10, r11, r12⟩ := id hR.at_
    obtain ⟨v0, v1⟩ := id hV.at_
    obtain ⟨x0, x1⟩ := id hX.at_
    have e0 := hR.fr 0
    have e1 := hR.fr 1
    have e2 := hR.fr 2
    have e3 := hR.fr 3
    have e4 := hR.fr 4
    have e5 := hR.fr 5
    have e6 := hR.fr 6
    have e7 := hR.fr 7
    have e8 := hR.fr 8
    have e9 := hR.fr 9
    have e10 := hR.fr 10
    have e11 := hR.fr 11
    have e12 := hR.fr 12
    have g0 := hV.fr 0
    have g1 := hV.fr 1
    have hq0 : w.heap.size + 1 < w9.heap.size := hR.lt
    have hq1 : w.heap.size + 1 + 1 < w9.heap.size := hV.lt
    have hq2 : b6 < w9.heap.size := hL.lt
    have hq3 : b4 < w9.heap.size := hX.lt
    have hq4 : w.heap.size + 1 ≠ b4 := by omega
    have hq5 : w.heap.size + 1 + 1 ≠ b4 := by omega
    have hn1 := ho9.not_box (b := w.heap.size + 1) (.inl (by omega))
    have hn2 := ho9.not_box (b := w.heap.size + 1 + 1) (.inl (by omega))
    go_region
    go_step
    go_wp2_with fail
    have h13 := set13_but w9 (w.heap.size + 1) { d with mail := M' } P9
    have h2 : But (w.heap.size + 1 + 1) (set13 w9 (w.heap.size + 1) { d with mail := M' } P9) (((set13 w9 (w.heap.size + 1) { d with mail := M' } P9).setCell ⟨w.heap.size + 1 + 1, 0, none⟩ (.int .i64 x.1)).setCell ⟨w.heap.size + 1 + 1, 1, none⟩ (.int .i64 x.2)) := ((But.refl _ _).setCell (p := ⟨w.heap.size + 1 + 1, 0, none⟩) rfl _).setCell (p := ⟨w.heap.size + 1 + 1, 1, none⟩) rfl _
    have h13z := h13.size
    have hfo := (((ho9.but h13 hn1.1 hn1.2.1 hn1.2.2.1 hn1.2.2.2).but h2 hn2.1 hn2.2.1 hn2.2.2.1 hn2.2.2.2).mono (A := w.heap.size) (by omega)).drew
    have hfB : Below w.heap.size w _ := ((hB9.trans (h13.below (B := w.heap.size) (by omega) (by omega))).trans (h2.below (B := w.heap.size) (by omega) (by omega))).drew
    exact bodyPost_ret (v := .tuple #[({ d with mail := M' } : RunD).val P9, .agg #[.int .i64 x.1, .int .i64 x.2], .bool true]) (by simp [results, Try.results20, go_sem, r0, r1, r2, r3, r4, r5, r6, r7, r8, r9, r10, r11, r12, v0, v1]) rfl ⟨P9, by rw [hfd.out, hfv.out, hfb.out], by rw [hfd.out]; exact hfo, hfB⟩
end Go.Proofs.Ytefaocjcfecipaa
