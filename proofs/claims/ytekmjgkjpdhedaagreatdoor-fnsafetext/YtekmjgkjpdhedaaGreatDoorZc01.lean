/-
  What the words behind the first are by a kind's parts (RR); what is to be said of impl's readParts by a kind's row (RowC).
  What impl's readParts answers over this translation by each of the fourteen kinds: the parts as the words behind the first tell them, and whether they are just those; nothing that was there turns.
  What impl.OpRead answers over this translation: the ok step whose text it is, and true, else nothing and false; nothing that was there turns.
  The lines of a text: what strings.Split and strings.CutSuffix answer at a newline, over this translation; nothing that was there turns.
  impl.stepsOf over this translation: at any text, the ok steps whose text it is, in a row of their own, or an error of the program's own type; nothing that was there turns.
  impl.CodeRead over this translation: at any text, the ok steps whose text it is, in a row of their own, and true, or none and false; nothing that was there turns.
-/
import Derived.Test.YtekmjgkjpdhedaaGreatDoorOpReadB
import Derived.Test.YtekmjgkjpdhedaaGreatDoorOpPieces
import Derived.Test.YtekmjgkjpdhedaaGreatDoorOpReadP
import Derived.Test.YtekmjgkjpdhedaaGreatDoorOpReadPB
import Derived.Test.YtekmjgkjpdhedaaGreatDoorOpReadPC
import Derived.Test.YtekmjgkjpdhedaaGreatDoorOpReadPD
import Derived.Test.YtekmjgkjpdhedaaGreatDoorSpecOpRead
import Derived.Test.YtekmjgkjpdhedaaGreatDoorOpKindW
import Derived.Shelf.Strings.Split
import Derived.Deep.CutRange
import Derived.Deep.RegionHeld3
import Derived.Test.YtekmjgkjpdhedaaGreatDoorLines
import Derived.Test.YtekmjgkjpdhedaaGreatDoorOwnOps
import Derived.Test.YtekmjgkjpdhedaaGreatDoorCodeOkI
import Derived.Test.YtekmjgkjpdhedaaGreatDoorErrAs
namespace Go.Proofs.YtekmjgkjpdhedaaGreatDoor
open Go.ChangeShapes Go.WideShapes Go.ChangeAt Go.RowKit Go.Joins
/-- words are those of a step's parts -/
structure Segs (k : Int) (ws : List (List UInt8)) (r s t a b : Int) : Prop where
  eq : ws = seg (fR k) (Lib.itoa r) ++ (seg (fS k) (Lib.itoa s) ++ (seg (fT k) (Lib.itoa t) ++ seg (fV k) (txt a b)))
  r1 : -99 ≤ r
  r2 : r ≤ 99
  s1 : -99 ≤ s
  s2 : s ≤ 99
  t1 : -99 ≤ t
  t2 : t ≤ 99
  v : okB a b = true
  zr : fR k = false → r = 0
  zs : fS k = false → s = 0
  zt : fT k = false → t = 0
  zv : fV k = false → a = 0 ∧ b = 0
/-- what a kind's parts make of the words behind the first -/
def RR (k : Int) (ws : List (List UInt8)) (r s t a b : Int) (ok : Bool) : Prop :=
  (ok = true ∧ ws = seg (fR k) (Lib.itoa r) ++ (seg (fS k) (Lib.itoa s) ++ (seg (fT k) (Lib.itoa t) ++ seg (fV k) (txt a b))) ∧ ∀ r' s' t' a' b', Segs k ws r' s' t' a' b' → r' = r ∧ s' = s ∧ t' = t ∧ a' = a ∧ b' = b) ∨
  (ok = false ∧ ∀ r' s' t' a' b', ¬ Segs k ws r' s' t' a' b')
/-- readParts by a kind's row and the words behind the first -/
def RowC (k : Int) (ws : List (List UInt8)) (r s t a b : Int) (ok : Bool) : Prop :=
  ∀ (x y z B : Nat) (ao : Option Addr) (w : World), (0 < ws.length → ao = some ⟨B, 1, none⟩) → Tab w → Errs w → B < w.heap.size → (∀ i, i < ws.length → w.cell? ⟨B, i + 1, none⟩ = some (.string ⟨(ws.getD i []).toArray⟩)) →
    Calls Tryz.prog 97 #[rowV k.toNat x y z, .agg #[.int .i64 k, .int .i64 0, .int .i64 0, .int .i64 0, .int .i64 0, .int .i64 0], .slice ao ws.length ws.length] w fun e w' =>
      (∃ c0 c1 c2 c3 c4 c5 : Int, e = .returned (.tuple #[.agg #[.int .i64 c0, .int .i64 c1, .int .i64 c2, .int .i64 c3, .int .i64 c4, .int .i64 c5], .bool ok]) ∧ (ok = true → c0 = k ∧ c1 = r ∧ c2 = s ∧ c3 = t ∧ c4 = a ∧ c5 = b)) ∧ Below w.heap.size w w'
theorem getD_len {ws : List (List UInt8)} (h : ∀ x ∈ ws, x.length ≤ 1048576) (i : Nat) : (ws.getD i []).length ≤ 1048576 := by
  rw [List.getD_eq_getElem?_getD]
  cases hi : ws[i]? with
  | none => simp
  | some x => exact h x (List.mem_of_getElem? hi)
theorem rr_1001 {k : Int} {ws : List (List UInt8)} {n0 n3 n4 : Int} {q0 q1 : Bool} (hR : fR k = true) (hS : fS k = false) (hT : fT k = false) (hV : fV k = true) (d0 : DR (ws.getD 0 []) n0 q0) (d1 : VR (ws.getD 1 []) n3 n4 q1) :
    RR k ws n0 0 0 n3 n4 (decide (ws.length = 2) && q0 && q1) := by
  by_cases hl : ws.length = 2
  · obtain ⟨x0, x1, rfl⟩ : ∃ x0 x1, ws = [x0, x1] := by
      match ws, hl with
      | [x0, x1], _ => exact ⟨x0, x1, rfl⟩
    have se : ∀ r' s' t' a' b', Segs k [x0, x1] r' s' t' a' b' → x0 = Lib.itoa r' ∧ x1 = txt a' b' := fun r' s' t' a' b' S => by
      have e := S.eq
      rw [hR, hS, hT, hV] at e
      simpa [seg] using e
    simp only [List.getD_cons_zero, List.getD_cons_succ] at d0 d1
    rcases d0 with ⟨rfl, e0, u0⟩ | ⟨rfl, rfl, u0⟩
    · rcases d1 with ⟨rfl, k1, t1⟩ | ⟨rfl, rfl, rfl, u1⟩
      · refine .inl ⟨by simp, by rw [hR, hS, hT, hV]; simp [seg, e0, ← t1], fun r' s' t' a' b' S => ?_⟩
        obtain ⟨g0, g1⟩ := se _ _ _ _ _ S
        have ev := txt_inj S.v k1 (g1.symm.trans t1)
        exact ⟨(u0 _ S.r1 S.r2 g0).symm, S.zs hS, S.zt hT, ev.1, ev.2⟩
      · exact .inr ⟨by simp, fun r' s' t' a' b' S => absurd (se _ _ _ _ _ S).2 (u1 _ _ S.v)⟩
    · exact .inr ⟨by simp, fun r' s' t' a' b' S => absurd (se _ _ _ _ _ S).1 (u0 _ S.r1 S.r2)⟩
  · refine .inr ⟨by simp [hl], fun r' s' t' a' b' S => hl ?_⟩
    rw [S.eq, hR, hS, hT, hV]
    simp [seg]
theorem rr_1100 {k : Int} {ws : List (List UInt8)} {n0 n1 : Int} {q0 q1 : Bool} (hR : fR k = true) (hS : fS k = true) (hT : fT k = false) (hV : fV k = false) (d0 : DR (ws.getD 0 []) n0 q0) (d1 : DR (ws.getD 1 []) n1 q1) :
    RR k ws n0 n1 0 0 0 (decide (ws.length = 2) && q0 && q1) := by
  by_cases hl : ws.length = 2
  · obtain ⟨x0, x1, rfl⟩ : ∃ x0 x1, ws = [x0, x1] := by
      match ws, hl with
      | [x0, x1], _ => exact ⟨x0, x1, rfl⟩
    have se : ∀ r' s' t' a' b', Segs k [x0, x1] r' s' t' a' b' → x0 = Lib.itoa r' ∧ x1 = Lib.itoa s' := fun r' s' t' a' b' S => by
      have e := S.eq
      rw [hR, hS, hT, hV] at e
      simpa [seg] using e
    simp only [List.getD_cons_zero, List.getD_cons_succ] at d0 d1
    rcases d0 with ⟨rfl, e0, u0⟩ | ⟨rfl, rfl, u0⟩
    · rcases d1 with ⟨rfl, e1, u1⟩ | ⟨rfl, rfl, u1⟩
      · refine .inl ⟨by simp, by rw [hR, hS, hT, hV]; simp [seg, e0, e1], fun r' s' t' a' b' S => ?_⟩
        obtain ⟨g0, g1⟩ := se _ _ _ _ _ S
        exact ⟨(u0 _ S.r1 S.r2 g0).symm, (u1 _ S.s1 S.s2 g1).symm, S.zt hT, (S.zv hV).1, (S.zv hV).2⟩
      · exact .inr ⟨by simp, fun r' s' t' a' b' S => absurd (se _ _ _ _ _ S).2 (u1 _ S.s1 S.s2)⟩
    · exact .inr ⟨by simp, fun r' s' t' a' b' S => absurd (se _ _ _ _ _ S).1 (u0 _ S.r1 S.r2)⟩
  · refine .inr ⟨by simp [hl], fun r' s' t' a' b' S => hl ?_⟩
    rw [S.eq, hR, hS, hT, hV]
    simp [seg]
theorem rr_1000 {k : Int} {ws : List (List UInt8)} {n0 : Int} {q0 : Bool} (hR : fR k = true) (hS : fS k = false) (hT : fT k = false) (hV : fV k = false) (d0 : DR (ws.getD 0 []) n0 q0) :
    RR k ws n0 0 0 0 0 (decide (ws.length = 1) && q0) := by
  by_cases hl : ws.length = 1
  · obtain ⟨x0, rfl⟩ : ∃ x0, ws = [x0] := by
      match ws, hl with
      | [x0], _ => exact ⟨x0, rfl⟩
    have se : ∀ r' s' t' a' b', Segs k [x0] r' s' t' a' b' → x0 = Lib.itoa r' := fun r' s' t' a' b' S => by
      have e := S.eq
      rw [hR, hS, hT, hV] at e
      simpa [seg] using e
    simp only [List.getD_cons_zero] at d0
    rcases d0 with ⟨rfl, e0, u0⟩ | ⟨rfl, rfl, u0⟩
    · refine .inl ⟨by simp, by rw [hR, hS, hT, hV]; simp [seg, e0], fun r' s' t' a' b' S => ?_⟩
      have g0 := se _ _ _ _ _ S
      exact ⟨(u0 _ S.r1 S.r2 g0).symm, S.zs hS, S.zt hT, (S.zv hV).1, (S.zv hV).2⟩
    · exact .inr ⟨by simp, fun r' s' t' a' b' S => absurd (se _ _ _ _ _ S) (u0 _ S.r1 S.r2)⟩
  · refine .inr ⟨by simp [hl], fun r' s' t' a' b' S => hl ?_⟩
    rw [S.eq, hR, hS, hT, hV]
    simp [seg]
theorem rr_1010 {k : Int} {ws : List (List UInt8)} {n0 n2 : Int} {q0 q1 : Bool} (hR : fR k = true) (hS : fS k = false) (hT : fT k = true) (hV : fV k = false) (d0 : DR (ws.getD 0 []) n0 q0) (d1 : DR (ws.getD 1 []) n2 q1) :
    RR k ws n0 0 n2 0 0 (decide (ws.length = 2) && q0 && q1) := by
  by_cases hl : ws.length = 2
  · obtain ⟨x0, x1, rfl⟩ : ∃ x0 x1, ws = [x0, x1] := by
      match ws, hl with
      | [x0, x1], _ => exact ⟨x0, x1, rfl⟩
    have se : ∀ r' s' t' a' b', Segs k [x0, x1] r' s' t' a' b' → x0 = Lib.itoa r' ∧ x1 = Lib.itoa t' := fun r' s' t' a' b' S => by
      have e := S.eq
      rw [hR, hS, hT, hV] at e
      simpa [seg] using e
    simp only [List.getD_cons_zero, List.getD_cons_succ] at d0 d1
    rcases d0 with ⟨rfl, e0, u0⟩ | ⟨rfl, rfl, u0⟩
    · rcases d1 with ⟨rfl, e1, u1⟩ | ⟨rfl, rfl, u1⟩
      · refine .inl ⟨by simp, by rw [hR, hS, hT, hV]; simp [seg, e0, e1], fun r' s' t' a' b' S => ?_⟩
        obtain ⟨g0, g1⟩ := se _ _ _ _ _ S
        exact ⟨(u0 _ S.r1 S.r2 g0).symm, S.zs hS, (u1 _ S.t1 S.t2 g1).symm, (S.zv hV).1, (S.zv hV).2⟩
      · exact .inr ⟨by simp, fun r' s' t' a' b' S => absurd (se _ _ _ _ _ S).2 (u1 _ S.t1 S.t2)⟩
    · exact .inr ⟨by simp, fun r' s' t' a' b' S => absurd (se _ _ _ _ _ S).1 (u0 _ S.r1 S.r2)⟩
  · refine .inr ⟨by simp [hl], fun r' s' t' a' b' S => hl ?_⟩
    rw [S.eq, hR, hS, hT, hV]
    simp [seg]
theorem rr_1111 {k : Int} {ws : List (List UInt8)} {n0 n1 n2 n3 n4 : Int} {q0 q1 q2 q3 : Bool} (hR : fR k = true) (hS : fS k = true) (hT : fT k = true) (hV : fV k = true) (d0 : DR (ws.getD 0 []) n0 q0) (d1 : DR (ws.getD 1 []) n1 q1) (d2 : DR (ws.getD 2 []) n2 q2) (d3 : VR (ws.getD 3 []) n3 n4 q3) :
    RR k ws n0 n1 n2 n3 n4 (decide (ws.length = 4) && q0 && q1 && q2 && q3) := by
  by_cases hl : ws.length = 4
  · obtain ⟨x0, x1, x2, x3, rfl⟩ : ∃ x0 x1 x2 x3, ws = [x0, x1, x2, x3] := by
      match ws, hl with
      | [x0, x1, x2, x3], _ => exact ⟨x0, x1, x2, x3, rfl⟩
    have se : ∀ r' s' t' a' b', Segs k [x0, x1, x2, x3] r' s' t' a' b' → x0 = Lib.itoa r' ∧ x1 = Lib.itoa s' ∧ x2 = Lib.itoa t' ∧ x3 = txt a' b' := fun r' s' t' a' b' S => by
      have e := S.eq
      rw [hR, hS, hT, hV] at e
      simpa [seg] using e
    simp only [List.getD_cons_zero, List.getD_cons_succ] at d0 d1 d2 d3
    rcases d0 with ⟨rfl, e0, u0⟩ | ⟨rfl, rfl, u0⟩
    · rcases d1 with ⟨rfl, e1, u1⟩ | ⟨rfl, rfl, u1⟩
      · rcases d2 with ⟨rfl, e2, u2⟩ | ⟨rfl, rfl, u2⟩
        · rcases d3 with ⟨rfl, k3, t3⟩ | ⟨rfl, rfl, rfl, u3⟩
          · refine .inl ⟨by simp, by rw [hR, hS, hT, hV]; simp [seg, e0, e1, e2, ← t3], fun r' s' t' a' b' S => ?_⟩
            obtain ⟨g0, g1, g2, g3⟩ := se _ _ _ _ _ S
            have ev := txt_inj S.v k3 (g3.symm.trans t3)
            exact ⟨(u0 _ S.r1 S.r2 g0).symm, (u1 _ S.s1 S.s2 g1).symm, (u2 _ S.t1 S.t2 g2).symm, ev.1, ev.2⟩
          · exact .inr ⟨by simp, fun r' s' t' a' b' S => absurd (se _ _ _ _ _ S).2.2.2 (u3 _ _ S.v)⟩
        · exact .inr ⟨by simp, fun r' s' t' a' b' S => absurd (se _ _ _ _ _ S).2.2.1 (u2 _ S.t1 S.t2)⟩
      · exact .inr ⟨by simp, fun r' s' t' a' b' S => absurd (se _ _ _ _ _ S).2.1 (u1 _ S.s1 S.s2)⟩
    · exact .inr ⟨by simp, fun r' s' t' a' b' S => absurd (se _ _ _ _ _ S).1 (u0 _ S.r1 S.r2)⟩
  · refine .inr ⟨by simp [hl], fun r' s' t' a' b' S => hl ?_⟩
    rw [S.eq, hR, hS, hT, hV]
    simp [seg]
theorem rr_0010 {k : Int} {ws : List (List UInt8)} {n2 : Int} {q0 : Bool} (hR : fR k = false) (hS : fS k = false) (hT : fT k = true) (hV : fV k = false) (d0 : DR (ws.getD 0 []) n2 q0) :
    RR k ws 0 0 n2 0 0 (decide (ws.length = 1) && q0) := by
  by_cases hl : ws.length = 1
  · obtain ⟨x0, rfl⟩ : ∃ x0, ws = [x0] := by
      match ws, hl with
      | [x0], _ => exact ⟨x0, rfl⟩
    have se : ∀ r' s' t' a' b', Segs k [x0] r' s' t' a' b' → x0 = Lib.itoa t' := fun r' s' t' a' b' S => by
      have e := S.eq
      rw [hR, hS, hT, hV] at e
      simpa [seg] using e
    simp only [List.getD_cons_zero] at d0
    rcases d0 with ⟨rfl, e0, u0⟩ | ⟨rfl, rfl, u0⟩
    · refine .inl ⟨by simp, by rw [hR, hS, hT, hV]; simp [seg, e0], fun r' s' t' a' b' S => ?_⟩
      have g0 := se _ _ _ _ _ S
      exact ⟨S.zr hR, S.zs hS, (u0 _ S.t1 S.t2 g0).symm, (S.zv hV).1, (S.zv hV).2⟩
    · exact .inr ⟨by simp, fun r' s' t' a' b' S => absurd (se _ _ _ _ _ S) (u0 _ S.t1 S.t2)⟩
  · refine .inr ⟨by simp [hl], fun r' s' t' a' b' S => hl ?_⟩
    rw [S.eq, hR, hS, hT, hV]
    simp [seg]
theorem rr_1011 {k : Int} {ws : List (List UInt8)} {n0 n2 n3 n4 : Int} {q0 q1 q2 : Bool} (hR : fR k = true) (hS : fS k = false) (hT : fT k = true) (hV : fV k = true) (d0 : DR (ws.getD 0 []) n0 q0) (d1 : DR (ws.getD 1 []) n2 q1) (d2 : VR (ws.getD 2 []) n3 n4 q2) :
    RR k ws n0 0 n2 n3 n4 (decide (ws.length = 3) && q0 && q1 && q2) := by
  by_cases hl : ws.length = 3
  · obtain ⟨x0, x1, x2, rfl⟩ : ∃ x0 x1 x2, ws = [x0, x1, x2] := by
      match ws, hl with
      | [x0, x1, x2], _ => exact ⟨x0, x1, x2, rfl⟩
    have se : ∀ r' s' t' a' b', Segs k [x0, x1, x2] r' s' t' a' b' → x0 = Lib.itoa r' ∧ x1 = Lib.itoa t' ∧ x2 = txt a' b' := fun r' s' t' a' b' S => by
      have e := S.eq
      rw [hR, hS, hT, hV] at e
      simpa [seg] using e
    simp only [List.getD_cons_zero, List.getD_cons_succ] at d0 d1 d2
    rcases d0 with ⟨rfl, e0, u0⟩ | ⟨rfl, rfl, u0⟩
    · rcases d1 with ⟨rfl, e1, u1⟩ | ⟨rfl, rfl, u1⟩
      · rcases d2 with ⟨rfl, k2, t2⟩ | ⟨rfl, rfl, rfl, u2⟩
        · refine .inl ⟨by simp, by rw [hR, hS, hT, hV]; simp [seg, e0, e1, ← t2], fun r' s' t' a' b' S => ?_⟩
          obtain ⟨g0, g1, g2⟩ := se _ _ _ _ _ S
          have ev := txt_inj S.v k2 (g2.symm.trans t2)
          exact ⟨(u0 _ S.r1 S.r2 g0).symm, S.zs hS, (u1 _ S.t1 S.t2 g1).symm, ev.1, ev.2⟩
        · exact .inr ⟨by simp, fun r' s' t' a' b' S => absurd (se _ _ _ _ _ S).2.2 (u2 _ _ S.v)⟩
      · exact .inr ⟨by simp, fun r' s' t' a' b' S => absurd (se _ _ _ _ _ S).2.1 (u1 _ S.t1 S.t2)⟩
    · exact .inr ⟨by simp, fun r' s' t' a' b' S => absurd (se _ _ _ _ _ S).1 (u0 _ S.r1 S.r2)⟩
  · refine .inr ⟨by simp [hl], fun r' s' t' a' b' S => hl ?_⟩
    rw [S.eq, hR, hS, hT, hV]
    simp [seg]
theorem rr_0001 {k : Int} {ws : List (List UInt8)} {n3 n4 : Int} {q0 : Bool} (hR : fR k = false) (hS : fS k = false) (hT : fT k = false) (hV : fV k = true) (d0 : VR (ws.getD 0 []) n3 n4 q0) :
    RR k ws 0 0 0 n3 n4 (decide (ws.length = 1) && q0) := by
  by_cases hl : ws.length = 1
  · obtain ⟨x0, rfl⟩ : ∃ x0, ws = [x0] := by
      match ws, hl with
      | [x0], _ => exact ⟨x0, rfl⟩
    have se : ∀ r' s' t' a' b', Segs k [x0] r' s' t' a' b' → x0 = txt a' b' := fun r' s' t' a' b' S => by
      have e := S.eq
      rw [hR, hS, hT, hV] at e
      simpa [seg] using e
    simp only [List.getD_cons_zero] at d0
    rcases d0 with ⟨rfl, k0, t0⟩ | ⟨rfl, rfl, rfl, u0⟩
    · refine .inl ⟨by simp, by rw [hR, hS, hT, hV]; simp [seg, ← t0], fun r' s' t' a' b' S => ?_⟩
      have g0 := se _ _ _ _ _ S
      have ev := txt_inj S.v k0 (g0.symm.trans t0)
      exact ⟨S.zr hR, S.zs hS, S.zt hT, ev.1, ev.2⟩
    · exact .inr ⟨by simp, fun r' s' t' a' b' S => absurd (se _ _ _ _ _ S) (u0 _ _ S.v)⟩
  · refine .inr ⟨by simp [hl], fun r' s' t' a' b' S => hl ?_⟩
    rw [S.eq, hR, hS, hT, hV]
    simp [seg]
/-- a row is fourteen cells -/
theorem row_shape (k : Int) (h1 : 1 ≤ k) (h2 : k ≤ 14) (x y z : Nat) : ∃ f0 f1 f2 f3 f4 f5 f6 f7 f8 f9 f10 f11 f12 f13 : Value, rowV k.toNat x y z = .agg #[f0, f1, f2, f3, f4, f5, f6, f7, f8, f9, f10, f11, f12, f13] ∧
    ∀ v ∈ [f0, f1, f2, f3, f4, f5, f6, f7, f8, f9, f10, f11, f12, f13], v.oneCell' = true := by
  rcases kinds14 (k := k) h1 h2 with rfl | rfl | rfl | rfl | rfl | rfl | rfl | rfl | rfl | rfl | rfl | rfl | rfl | rfl
  · exact ⟨_, _, _, _, _, _, _, _, _, _, _, _, _, _, row_1 x y z, by simp [Value.oneCell']⟩
  · exact ⟨_, _, _, _, _, _, _, _, _, _, _, _, _, _, row_2 x y z, by simp [Value.oneCell']⟩
  · exact ⟨_, _, _, _, _, _, _, _, _, _, _, _, _, _, row_3 x y z, by simp [Value.oneCell']⟩
  · exact ⟨_, _, _, _, _, _, _, _, _, _, _, _, _, _, row_4 x y z, by simp [Value.oneCell']⟩
  · exact ⟨_, _, _, _, _, _, _, _, _, _, _, _, _, _, row_5 x y z, by simp [Value.oneCell']⟩
  · exact ⟨_, _, _, _, _, _, _, _, _, _, _, _, _, _, row_6 x y z, by simp [Value.oneCell']⟩
  · exact ⟨_, _, _, _, _, _, _, _, _, _, _, _, _, _, row_7 x y z, by simp [Value.oneCell']⟩
  · exact ⟨_, _, _, _, _, _, _, _, _, _, _, _, _, _, row_8 x y z, by simp [Value.oneCell']⟩
  · exact ⟨_, _, _, _, _, _, _, _, _, _, _, _, _, _, row_9 x y z, by simp [Value.oneCell']⟩
  · exact ⟨_, _, _, _, _, _, _, _, _, _, _, _, _, _, row_10 x y z, by simp [Value.oneCell']⟩
  · exact ⟨_, _, _, _, _, _, _, _, _, _, _, _, _, _, row_11 x y z, by simp [Value.oneCell']⟩
  · exact ⟨_, _, _, _, _, _, _, _, _, _, _, _, _, _, row_12 x y z, by simp [Value.oneCell']⟩
  · exact ⟨_, _, _, _, _, _, _, _, _, _, _, _, _, _, row_13 x y z, by simp [Value.oneCell']⟩
  · exact ⟨_, _, _, _, _, _, _, _, _, _, _, _, _, _, row_14 x y z, by simp [Value.oneCell']⟩
end Go.Proofs.YtekmjgkjpdhedaaGreatDoor
namespace Go.Proofs.YtekmjgkjpdhedaaGreatDoor
open Go.ChangeShapes Go.WideShapes Go.ChangeAt Go.RowKit Go.Joins
set_option maxRecDepth 20000 in
theorem readRow_1 (ws : List (List UInt8)) (hws : ∀ x ∈ ws, x.length ≤ 1048576) : ∃ r s t a b ok, RR 1 ws r s t a b ok ∧ RowC 1 ws r s t a b ok := by
  obtain ⟨n0, q0, d0, C0⟩ := decR (ws.getD 0 []) (getD_len hws 0)
  obtain ⟨n3, n4, q1, d1, C1⟩ := valR (ws.getD 1 []) (getD_len hws 1)
  refine ⟨n0, 0, 0, n3, n4, _, rr_1001 (by decide) (by decide) (by decide) (by decide) d0 d1, fun x y z B ao w hao hT hE hB hy => ?_⟩
  rw [row_1]
  refine (readParts_1001 rfl rfl rfl rfl rfl rfl rfl rfl B ws.length ao hao en_readR (fun w hT hE => readR_any _ _ _ C0 _ _ _ _ _ _ w hT hE) en_readV (fun w hT hE => readV_any _ _ _ _ C1 _ _ _ _ _ _ w hT hE) w hT hE hB (fun h => hy 0 h) (fun h => hy 1 h)).mono ?_
  rintro e w' ⟨⟨o, rfl, ho, c0, c1, c2, c3, c4, c5, rfl⟩, hb⟩
  exact ⟨⟨c0, c1, c2, c3, c4, c5, rfl, fun h => by have h' := ho h; simpa using h'⟩, hb⟩
set_option maxRecDepth 20000 in
theorem readRow_2 (ws : List (List UInt8)) (hws : ∀ x ∈ ws, x.length ≤ 1048576) : ∃ r s t a b ok, RR 2 ws r s t a b ok ∧ RowC 2 ws r s t a b ok := by
  obtain ⟨n0, q0, d0, C0⟩ := decR (ws.getD 0 []) (getD_len hws 0)
  obtain ⟨n1, q1, d1, C1⟩ := decR (ws.getD 1 []) (getD_len hws 1)
  refine ⟨n0, n1, 0, 0, 0, _, rr_1100 (by decide) (by decide) (by decide) (by decide) d0 d1, fun x y z B ao w hao hT hE hB hy => ?_⟩
  rw [row_2]
  refine (readParts_1100 rfl rfl rfl rfl rfl rfl rfl rfl B ws.length ao hao en_readR (fun w hT hE => readR_any _ _ _ C0 _ _ _ _ _ _ w hT hE) en_readS (fun w hT hE => readS_any _ _ _ C1 _ _ _ _ _ _ w hT hE) w hT hE hB (fun h => hy 0 h) (fun h => hy 1 h)).mono ?_
  rintro e w' ⟨⟨o, rfl, ho, c0, c1, c2, c3, c4, c5, rfl⟩, hb⟩
  exact ⟨⟨c0, c1, c2, c3, c4, c5, rfl, fun h => by have h' := ho h; simpa using h'⟩, hb⟩
set_option maxRecDepth 20000 in
theorem readRow_3 (ws : List (List UInt8)) (hws : ∀ x ∈ ws, x.length ≤ 1048576) : ∃ r s t a b ok, RR 3 ws r s t a b ok ∧ RowC 3 ws r s t a b ok := by
  obtain ⟨n0, q0, d0, C0⟩ := decR (ws.getD 0 []) (getD_len hws 0)
  obtain ⟨n1, q1, d1, C1⟩ := decR (ws.getD 1 []) (getD_len hws 1)
  refine ⟨n0, n1, 0, 0, 0, _, rr_1100 (by decide) (by decide) (by decide) (by decide) d0 d1, fun x y z B ao w hao hT hE hB hy => ?_⟩
  rw [row_3]
  refine (readParts_1100 rfl rfl rfl rfl rfl rfl rfl rfl B ws.length ao hao en_readR (fun w hT hE => readR_any _ _ _ C0 _ _ _ _ _ _ w hT hE) en_readS (fun w hT hE => readS_any _ _ _ C1 _ _ _ _ _ _ w hT hE) w hT hE hB (fun h => hy 0 h) (fun h => hy 1 h)).mono ?_
  rintro e w' ⟨⟨o, rfl, ho, c0, c1, c2, c3, c4, c5, rfl⟩, hb⟩
  exact ⟨⟨c0, c1, c2, c3, c4, c5, rfl, fun h => by have h' := ho h; simpa using h'⟩, hb⟩
set_option maxRecDepth 20000 in
theorem readRow_4 (ws : List (List UInt8)) (hws : ∀ x ∈ ws, x.length ≤ 1048576) : ∃ r s t a b ok, RR 4 ws r s t a b ok ∧ RowC 4 ws r s t a b ok := by
  obtain ⟨n0, q0, d0, C0⟩ := decR (ws.getD 0 []) (getD_len hws 0)
  refine ⟨n0, 0, 0, 0, 0, _, rr_1000 (by decide) (by decide) (by decide) (by decide) d0, fun x y z B ao w hao hT hE hB hy => ?_⟩
  rw [row_4]
  refine (readParts_1000 rfl rfl rfl rfl rfl rfl rfl rfl B ws.length ao hao en_readR (fun w hT hE => readR_any _ _ _ C0 _ _ _ _ _ _ w hT hE) w hT hE hB (fun h => hy 0 h)).mono ?_
  rintro e w' ⟨⟨o, rfl, ho, c0, c1, c2, c3, c4, c5, rfl⟩, hb⟩
  exact ⟨⟨c0, c1, c2, c3, c4, c5, rfl, fun h => by have h' := ho h; simpa using h'⟩, hb⟩
set_option maxRecDepth 20000 in
theorem readRow_5 (ws : List (List UInt8)) (hws : ∀ x ∈ ws, x.length ≤ 1048576) : ∃ r s t a b ok, RR 5 ws r s t a b ok ∧ RowC 5 ws r s t a b ok := by
  obtain ⟨n0, q0, d0, C0⟩ := decR (ws.getD 0 []) (getD_len hws 0)
  obtain ⟨n2, q1, d1, C1⟩ := decR (ws.getD 1 []) (getD_len hws 1)
  refine ⟨n0, 0, n2, 0, 0, _, rr_1010 (by decide) (by decide) (by decide) (by decide) d0 d1, fun x y z B ao w hao hT hE hB hy => ?_⟩
  rw [row_5]
  refine (readParts_1010 rfl rfl rfl rfl rfl rfl rfl rfl B ws.length ao hao en_readR (fun w hT hE => readR_any _ _ _ C0 _ _ _ _ _ _ w hT hE) en_readTo (fun w hT hE => readTo_any _ _ _ C1 _ _ _ _ _ _ w hT hE) w hT hE hB (fun h => hy 0 h) (fun h => hy 1 h)).mono ?_
  rintro e w' ⟨⟨o, rfl, ho, c0, c1, c2, c3, c4, c5, rfl⟩, hb⟩
  exact ⟨⟨c0, c1, c2, c3, c4, c5, rfl, fun h => by have h' := ho h; simpa using h'⟩, hb⟩
set_option maxRecDepth 20000 in
theorem readRow_6 (ws : List (List UInt8)) (hws : ∀ x ∈ ws, x.length ≤ 1048576) : ∃ r s t a b ok, RR 6 ws r s t a b ok ∧ RowC 6 ws r s t a b ok := by
  obtain ⟨n0, q0, d0, C0⟩ := decR (ws.getD 0 []) (getD_len hws 0)
  obtain ⟨n1, q1, d1, C1⟩ := decR (ws.getD 1 []) (getD_len hws 1)
  refine ⟨n0, n1, 0, 0, 0, _, rr_1100 (by decide) (by decide) (by decide) (by decide) d0 d1, fun x y z B ao w hao hT hE hB hy => ?_⟩
  rw [row_6]
  refine (readParts_1100 rfl rfl rfl rfl rfl rfl rfl rfl B ws.length ao hao en_readR (fun w hT hE => readR_any _ _ _ C0 _ _ _ _ _ _ w hT hE) en_readS (fun w hT hE => readS_any _ _ _ C1 _ _ _ _ _ _ w hT hE) w hT hE hB (fun h => hy 0 h) (fun h => hy 1 h)).mono ?_
  rintro e w' ⟨⟨o, rfl, ho, c0, c1, c2, c3, c4, c5, rfl⟩, hb⟩
  exact ⟨⟨c0, c1, c2, c3, c4, c5, rfl, fun h => by have h' := ho h; simpa using h'⟩, hb⟩
set_option maxRecDepth 20000 in
theorem readRow_7 (ws : List (List UInt8)) (hws : ∀ x ∈ ws, x.length ≤ 1048576) : ∃ r s t a b ok, RR 7 ws r s t a b ok ∧ RowC 7 ws r s t a b ok := by
  obtain ⟨n0, q0, d0, C0⟩ := decR (ws.getD 0 []) (getD_len hws 0)
  obtain ⟨n1, q1, d1, C1⟩ := decR (ws.getD 1 []) (getD_len hws 1)
  refine ⟨n0, n1, 0, 0, 0, _, rr_1100 (by decide) (by decide) (by decide) (by decide) d0 d1, fun x y z B ao w hao hT hE hB hy => ?_⟩
  rw [row_7]
  refine (readParts_1100 rfl rfl rfl rfl rfl rfl rfl rfl B ws.length ao hao en_readR (fun w hT hE => readR_any _ _ _ C0 _ _ _ _ _ _ w hT hE) en_readS (fun w hT hE => readS_any _ _ _ C1 _ _ _ _ _ _ w hT hE) w hT hE hB (fun h => hy 0 h) (fun h => hy 1 h)).mono ?_
  rintro e w' ⟨⟨o, rfl, ho, c0, c1, c2, c3, c4, c5, rfl⟩, hb⟩
  exact ⟨⟨c0, c1, c2, c3, c4, c5, rfl, fun h => by have h' := ho h; simpa using h'⟩, hb⟩
set_option maxRecDepth 20000 in
theorem readRow_8 (ws : List (List UInt8)) (hws : ∀ x ∈ ws, x.length ≤ 1048576) : ∃ r s t a b ok, RR 8 ws r s t a b ok ∧ RowC 8 ws r s t a b ok := by
  obtain ⟨n0, q0, d0, C0⟩ := decR (ws.getD 0 []) (getD_len hws 0)
  obtain ⟨n1, q1, d1, C1⟩ := decR (ws.getD 1 []) (getD_len hws 1)
  obtain ⟨n2, q2, d2, C2⟩ := decR (ws.getD 2 []) (getD_len hws 2)
  obtain ⟨n3, n4, q3, d3, C3⟩ := valR (ws.getD 3 []) (getD_len hws 3)
  refine ⟨n0, n1, n2, n3, n4, _, rr_1111 (by decide) (by decide) (by decide) (by decide) d0 d1 d2 d3, fun x y z B ao w hao hT hE hB hy => ?_⟩
  rw [row_8]
  refine (readParts_1111 rfl rfl rfl rfl rfl rfl rfl rfl B ws.length ao hao en_readR (fun w hT hE => readR_any _ _ _ C0 _ _ _ _ _ _ w hT hE) en_readS (fun w hT hE => readS_any _ _ _ C1 _ _ _ _ _ _ w hT hE) en_readTo (fun w hT hE => readTo_any _ _ _ C2 _ _ _ _ _ _ w hT hE) en_readV (fun w hT hE => readV_any _ _ _ _ C3 _ _ _ _ _ _ w hT hE) w hT hE hB (fun h => hy 0 h) (fun h => hy 1 h) (fun h => hy 2 h) (fun h => hy 3 h)).mono ?_
  rintro e w' ⟨⟨o, rfl, ho, c0, c1, c2, c3, c4, c5, rfl⟩, hb⟩
  exact ⟨⟨c0, c1, c2, c3, c4, c5, rfl, fun h => by have h' := ho h; simpa using h'⟩, hb⟩
set_option maxRecDepth 20000 in
theorem readRow_9 (ws : List (List UInt8)) (hws : ∀ x ∈ ws, x.length ≤ 1048576) : ∃ r s t a b ok, RR 9 ws r s t a b ok ∧ RowC 9 ws r s t a b ok := by
  obtain ⟨n2, q0, d0, C0⟩ := decR (ws.getD 0 []) (getD_len hws 0)
  refine ⟨0, 0, n2, 0, 0, _, rr_0010 (by decide) (by decide) (by decide) (by decide) d0, fun x y z B ao w hao hT hE hB hy => ?_⟩
  rw [row_9]
  refine (readParts_0010 rfl rfl rfl rfl rfl rfl rfl rfl B ws.length ao hao en_readTo (fun w hT hE => readTo_any _ _ _ C0 _ _ _ _ _ _ w hT hE) w hT hE hB (fun h => hy 0 h)).mono ?_
  rintro e w' ⟨⟨o, rfl, ho, c0, c1, c2, c3, c4, c5, rfl⟩, hb⟩
  exact ⟨⟨c0, c1, c2, c3, c4, c5, rfl, fun h => by have h' := ho h; simpa using h'⟩, hb⟩
set_option maxRecDepth 20000 in
theorem readRow_10 (ws : List (List UInt8)) (hws : ∀ x ∈ ws, x.length ≤ 1048576) : ∃ r s t a b ok, RR 10 ws r s t a b ok ∧ RowC 10 ws r s t a b ok := by
  obtain ⟨n0, q0, d0, C0⟩ := decR (ws.getD 0 []) (getD_len hws 0)
  obtain ⟨n2, q1, d1, C1⟩ := decR (ws.getD 1 []) (getD_len hws 1)
  obtain ⟨n3, n4, q2, d2, C2⟩ := valR (ws.getD 2 []) (getD_len hws 2)
  refine ⟨n0, 0, n2, n3, n4, _, rr_1011 (by decide) (by decide) (by decide) (by decide) d0 d1 d2, fun x y z B ao w hao hT hE hB hy => ?_⟩
  rw [row_10]
  refine (readParts_1011 rfl rfl rfl rfl rfl rfl rfl rfl B ws.length ao hao en_readR (fun w hT hE => readR_any _ _ _ C0 _ _ _ _ _ _ w hT hE) en_readTo (fun w hT hE => readTo_any _ _ _ C1 _ _ _ _ _ _ w hT hE) en_readV (fun w hT hE => readV_any _ _ _ _ C2 _ _ _ _ _ _ w hT hE) w hT hE hB (fun h => hy 0 h) (fun h => hy 1 h) (fun h => hy 2 h)).mono ?_
  rintro e w' ⟨⟨o, rfl, ho, c0, c1, c2, c3, c4, c5, rfl⟩, hb⟩
  exact ⟨⟨c0, c1, c2, c3, c4, c5, rfl, fun h => by have h' := ho h; simpa using h'⟩, hb⟩
set_option maxRecDepth 20000 in
theorem readRow_11 (ws : List (List UInt8)) (hws : ∀ x ∈ ws, x.length ≤ 1048576) : ∃ r s t a b ok, RR 11 ws r s t a b ok ∧ RowC 11 ws r s t a b ok := by
  obtain ⟨n0, q0, d0, C0⟩ := decR (ws.getD 0 []) (getD_len hws 0)
  refine ⟨n0, 0, 0, 0, 0, _, rr_1000 (by decide) (by decide) (by decide) (by decide) d0, fun x y z B ao w hao hT hE hB hy => ?_⟩
  rw [row_11]
  refine (readParts_1000 rfl rfl rfl rfl rfl rfl rfl rfl B ws.length ao hao en_readR (fun w hT hE => readR_any _ _ _ C0 _ _ _ _ _ _ w hT hE) w hT hE hB (fun h => hy 0 h)).mono ?_
  rintro e w' ⟨⟨o, rfl, ho, c0, c1, c2, c3, c4, c5, rfl⟩, hb⟩
  exact ⟨⟨c0, c1, c2, c3, c4, c5, rfl, fun h => by have h' := ho h; simpa using h'⟩, hb⟩
set_option maxRecDepth 20000 in
theorem readRow_12 (ws : List (List UInt8)) (hws : ∀ x ∈ ws, x.length ≤ 1048576) : ∃ r s t a b ok, RR 12 ws r s t a b ok ∧ RowC 12 ws r s t a b ok := by
  obtain ⟨n0, q0, d0, C0⟩ := decR (ws.getD 0 []) (getD_len hws 0)
  refine ⟨n0, 0, 0, 0, 0, _, rr_1000 (by decide) (by decide) (by decide) (by decide) d0, fun x y z B ao w hao hT hE hB hy => ?_⟩
  rw [row_12]
  refine (readParts_1000 rfl rfl rfl rfl rfl rfl rfl rfl B ws.length ao hao en_readR (fun w hT hE => readR_any _ _ _ C0 _ _ _ _ _ _ w hT hE) w hT hE hB (fun h => hy 0 h)).mono ?_
  rintro e w' ⟨⟨o, rfl, ho, c0, c1, c2, c3, c4, c5, rfl⟩, hb⟩
  exact ⟨⟨c0, c1, c2, c3, c4, c5, rfl, fun h => by have h' := ho h; simpa using h'⟩, hb⟩
set_option maxRecDepth 20000 in
theorem readRow_13 (ws : List (List UInt8)) (hws : ∀ x ∈ ws, x.length ≤ 1048576) : ∃ r s t a b ok, RR 13 ws r s t a b ok ∧ RowC 13 ws r s t a b ok := by
  obtain ⟨n3, n4, q0, d0, C0⟩ := valR (ws.getD 0 []) (getD_len hws 0)
  refine ⟨0, 0, 0, n3, n4, _, rr_0001 (by decide) (by decide) (by decide) (by decide) d0, fun x y z B ao w hao hT hE hB hy => ?_⟩
  rw [row_13]
  refine (readParts_0001 rfl rfl rfl rfl rfl rfl rfl rfl B ws.length ao hao en_readV (fun w hT hE => readV_any _ _ _ _ C0 _ _ _ _ _ _ w hT hE) w hT hE hB (fun h => hy 0 h)).mono ?_
  rintro e w' ⟨⟨o, rfl, ho, c0, c1, c2, c3, c4, c5, rfl⟩, hb⟩
  exact ⟨⟨c0, c1, c2, c3, c4, c5, rfl, fun h => by have h' := ho h; simpa using h'⟩, hb⟩
set_option maxRecDepth 20000 in
theorem readRow_14 (ws : List (List UInt8)) (hws : ∀ x ∈ ws, x.length ≤ 1048576) : ∃ r s t a b ok, RR 14 ws r s t a b ok ∧ RowC 14 ws r s t a b ok := by
  obtain ⟨n0, q0, d0, C0⟩ := decR (ws.getD 0 []) (getD_len hws 0)
  refine ⟨n0, 0, 0, 0, 0, _, rr_1000 (by decide) (by decide) (by decide) (by decide) d0, fun x y z B ao w hao hT hE hB hy => ?_⟩
  rw [row_14]
  refine (readParts_1000 rfl rfl rfl rfl rfl rfl rfl rfl B ws.length ao hao en_readR (fun w hT hE => readR_any _ _ _ C0 _ _ _ _ _ _ w hT hE) w hT hE hB (fun h => hy 0 h)).mono ?_
  rintro e w' ⟨⟨o, rfl, ho, c0, c1, c2, c3, c4, c5, rfl⟩, hb⟩
  exact ⟨⟨c0, c1, c2, c3, c4, c5, rfl, fun h => by have h' := ho h; simpa using h'⟩, hb⟩
theorem readRow_any (k : Int) (h1 : 1 ≤ k) (h2 : k ≤ 14) (ws : List (List UInt8)) (hws : ∀ x ∈ ws, x.length ≤ 1048576) : ∃ r s t a b ok, RR k ws r s t a b ok ∧ RowC k ws r s t a b ok := by
  rcases kinds14 (k := k) h1 h2 with rfl | rfl | rfl | rfl | rfl | rfl | rfl | rfl | rfl | rfl | rfl | rfl | rfl | rfl
  · exact readRow_1 ws hws
  · exact readRow_2 ws hws
  · exact readRow_3 ws hws
  · exact readRow_4 ws hws
  · exact readRow_5 ws hws
  · exact readRow_6 ws hws
  · exact readRow_7 ws hws
  · exact readRow_8 ws hws
  · exact readRow_9 ws hws
  · exact readRow_10 ws hws
  · exact readRow_11 ws hws
  · exact readRow_12 ws hws
  · exact readRow_13 ws hws
  · exact readRow_14 ws hws
end Go.Proofs.YtekmjgkjpdhedaaGreatDoor
namespace Go.Proofs.YtekmjgkjpdhedaaGreatDoor
open Go.ChangeShapes Go.WideShapes Go.ChangeAt Go.RowKit Go.Joins
/-- the library's bound holds an int -/
def Max (w : World) : Prop := ∃ m, w.cell? ⟨1, 0, none⟩ = some (.int .i64 m)
theorem Max.below {w w' : World} (h : Max w) (hb : Below w.heap.size w w') : Max w' := by
  obtain ⟨m, h⟩ := h
  exact ⟨m, (hb.cell (p := ⟨1, 0, none⟩) (World.block_lt_of_cell? _ _ h)).trans h⟩
/-- the pieces of a text, in memory -/
def pcsA (t : List UInt8) : Array Value := ((pcs t).map fun x => Value.string ⟨x.toArray⟩).toArray
theorem split_any (t : List UInt8) (ht : t.length ≤ 1048576) (w : World) (hM : Max w) :
    Calls Tryz.prog 53 #[.string ⟨t.toArray⟩, .string ⟨#[32]⟩] w fun e w' => e = .returned (.slice (some ⟨w.heap.size, 0, none⟩) (pcs t).length (pcs t).length) ∧ w' = w.alloc (.cells (pcsA t) 9) := by
  obtain ⟨m, hM⟩ := hM
  have hs : (⟨t.toArray⟩ : ByteArray).size = t.length := by simp [ByteArray.size]
  have hd := Lib.splitB_data ⟨#[32]⟩ 0 (Lib.countB ⟨t.toArray⟩ ⟨#[32]⟩) ⟨t.toArray⟩
  have hc : Lib.countB ⟨t.toArray⟩ ⟨#[32]⟩ = Lib.count t [32] := by simp [Lib.countB]
  have e1 : (Lib.splitB ⟨#[32]⟩ 0 (Lib.countB ⟨t.toArray⟩ ⟨#[32]⟩) ⟨t.toArray⟩).map (·.data.toList) = pcs t := by
    rw [hd, hc]; exact splitK_pcs t
  have e2 : (Lib.splitB ⟨#[32]⟩ 0 (Lib.countB ⟨t.toArray⟩ ⟨#[32]⟩) ⟨t.toArray⟩).map Value.string = (pcs t).map fun x => Value.string ⟨x.toArray⟩ := by
    rw [← e1, List.map_map]; apply List.map_congr_left; intro x _; simp
  have e3 : Lib.countB ⟨t.toArray⟩ ⟨#[32]⟩ + 1 = (pcs t).length := by
    rw [← Lib.splitB_all ⟨#[32]⟩ (by decide) 0 _ ⟨t.toArray⟩ rfl, ← e1, List.length_map]
  have c := Any.strings_Split { laysSplit with } laysSplit.i9 ⟨t.toArray⟩ ⟨#[32]⟩ m w (by rw [hs]; omega) hM (by decide)
  rw [e2, e3] at c
  exact c
/-- what the loads of the region read, and that what was there stays -/
abbrev SevF (F : Nat) (f0 f1 f2 f3 f4 f5 f6 f7 f8 f9 f10 f11 f12 f13 : Value) (w2 w' : World) : Prop :=
  w'.cell? ⟨F, 0, none⟩ = some f0 ∧ w'.cell? ⟨F, 1, none⟩ = some f1 ∧ w'.cell? ⟨F, 2, none⟩ = some f2 ∧ w'.cell? ⟨F, 3, none⟩ = some f3 ∧ w'.cell? ⟨F, 4, none⟩ = some f4 ∧ w'.cell? ⟨F, 5, none⟩ = some f5 ∧ w'.cell? ⟨F, 6, none⟩ = some f6 ∧ w'.cell? ⟨F, 7, none⟩ = some f7 ∧ w'.cell? ⟨F, 8, none⟩ = some f8 ∧ w'.cell? ⟨F, 9, none⟩ = some f9 ∧ w'.cell? ⟨F, 10, none⟩ = some f10 ∧ w'.cell? ⟨F, 11, none⟩ = some f11 ∧ w'.cell? ⟨F, 12, none⟩ = some f12 ∧ w'.cell? ⟨F, 13, none⟩ = some f13 ∧ Below w2.heap.size w2 w'
theorem SevF.below {F : Nat} {f0 f1 f2 f3 f4 f5 f6 f7 f8 f9 f10 f11 f12 f13 : Value} {w2 w' : World} (h : SevF F f0 f1 f2 f3 f4 f5 f6 f7 f8 f9 f10 f11 f12 f13 w2 w') : Below w2.heap.size w2 w' := h.2.2.2.2.2.2.2.2.2.2.2.2.2.2
theorem sevF_of {F : Nat} {f0 f1 f2 f3 f4 f5 f6 f7 f8 f9 f10 f11 f12 f13 : Value} {w2 w' X : World} (l : F < w2.heap.size) (h : SevF F f0 f1 f2 f3 f4 f5 f6 f7 f8 f9 f10 f11 f12 f13 w2 w') (hb : Below w2.heap.size w2 X) : SevF F f0 f1 f2 f3 f4 f5 f6 f7 f8 f9 f10 f11 f12 f13 w2 X := by
  obtain ⟨h0, h1, h2, h3, h4, h5, h6, h7, h8, h9, h10, h11, h12, h13, h14⟩ := h
  have e : ∀ o, X.cell? ⟨F, o, none⟩ = w'.cell? ⟨F, o, none⟩ := fun o => (hb.cell (p := ⟨F, o, none⟩) l).trans (h14.cell (p := ⟨F, o, none⟩) l).symm
  exact ⟨(e _).trans h0, (e _).trans h1, (e _).trans h2, (e _).trans h3, (e _).trans h4, (e _).trans h5, (e _).trans h6, (e _).trans h7, (e _).trans h8, (e _).trans h9, (e _).trans h10, (e _).trans h11, (e _).trans h12, (e _).trans h13, hb⟩
theorem sevF_drew {F : Nat} {f0 f1 f2 f3 f4 f5 f6 f7 f8 f9 f10 f11 f12 f13 : Value} {w2 X : World} (l : F < w2.heap.size) (h : SevF F f0 f1 f2 f3 f4 f5 f6 f7 f8 f9 f10 f11 f12 f13 w2 X) : SevF F f0 f1 f2 f3 f4 f5 f6 f7 f8 f9 f10 f11 f12 f13 w2 X.drew := sevF_of l h (SevF.below h).drew
theorem sevF_call {F : Nat} {f0 f1 f2 f3 f4 f5 f6 f7 f8 f9 f10 f11 f12 f13 : Value} {w2 X w' : World} (l : F < w2.heap.size) (h : SevF F f0 f1 f2 f3 f4 f5 f6 f7 f8 f9 f10 f11 f12 f13 w2 X) (hb : Below X.heap.size X w') : SevF F f0 f1 f2 f3 f4 f5 f6 f7 f8 f9 f10 f11 f12 f13 w2 w' := sevF_of l h (bel_call (SevF.below h) hb)
theorem sevF_alloc {F : Nat} {f0 f1 f2 f3 f4 f5 f6 f7 f8 f9 f10 f11 f12 f13 : Value} {w2 X : World} (l : F < w2.heap.size) (h : SevF F f0 f1 f2 f3 f4 f5 f6 f7 f8 f9 f10 f11 f12 f13 w2 X) (o : Obj) : SevF F f0 f1 f2 f3 f4 f5 f6 f7 f8 f9 f10 f11 f12 f13 w2 (X.alloc o) := sevF_of l h ((SevF.below h).alloc (SevF.below h).size o)
theorem sevF_six {F : Nat} {f0 f1 f2 f3 f4 f5 f6 f7 f8 f9 f10 f11 f12 f13 : Value} {w2 X : World} (l : F < w2.heap.size) (h : SevF F f0 f1 f2 f3 f4 f5 f6 f7 f8 f9 f10 f11 f12 f13 w2 X) {nb : Nat} (hp : w2.heap.size ≤ nb) (v0 v1 v2 v3 v4 v5 : Value) : SevF F f0 f1 f2 f3 f4 f5 f6 f7 f8 f9 f10 f11 f12 f13 w2 ((((((X.setCell ⟨nb, 0, none⟩ v0).setCell ⟨nb, 1, none⟩ v1).setCell ⟨nb, 2, none⟩ v2).setCell ⟨nb, 3, none⟩ v3).setCell ⟨nb, 4, none⟩ v4).setCell ⟨nb, 5, none⟩ v5) :=
  sevF_of l h (bel_set (bel_set (bel_set (bel_set (bel_set (bel_set (SevF.below h) hp v0) hp v1) hp v2) hp v3) hp v4) hp v5)
theorem sevF_realloc {F : Nat} {f0 f1 f2 f3 f4 f5 f6 f7 f8 f9 f10 f11 f12 f13 : Value} {w2 X : World} (l : F < w2.heap.size) {o : Obj} (h : SevF F f0 f1 f2 f3 f4 f5 f6 f7 f8 f9 f10 f11 f12 f13 w2 (X.alloc o)) (hs : w2.heap.size ≤ X.heap.size) (o' : Obj) : SevF F f0 f1 f2 f3 f4 f5 f6 f7 f8 f9 f10 f11 f12 f13 w2 (X.alloc o') := by
  have hb := SevF.below h
  refine sevF_of l h ⟨hb.os, hb.tape, hb.output, by simp; omega, fun k hk => ?_⟩
  rw [← hb.block k hk, heap_old (by omega), heap_old (by omega)]
theorem pcsA_cell (x : List UInt8) (i : Nat) (hi : i < (pcs x).length) (w : World) : (w.alloc (.cells (pcsA x) 9)).cell? ⟨w.heap.size, i, none⟩ = some (.string ⟨((pcs x).getD i []).toArray⟩) := by
  have h : (pcsA x)[i]? = some (.string ⟨((pcs x).getD i []).toArray⟩) := by
    unfold pcsA
    rw [List.getElem?_toArray, List.getElem?_map, List.getD_eq_getElem?_getD, List.getElem?_eq_getElem hi]; rfl
  simp [go_sem, h]
theorem kw_is {x : List UInt8} {k j : Int} (h1 : 1 ≤ k) (h2 : k ≤ 14) (hx : x = word k) (h : KW x j) : j = k := by
  rcases h with ⟨a, b, e⟩ | ⟨_, e⟩
  · have := words_inj j.toNat (by omega) k.toNat (by omega) (by rw [hx] at e; exact e.symm)
    omega
  · exact absurd hx (e k h1 h2)
set_option maxRecDepth 20000 in
set_option maxHeartbeats 8000000 in
theorem opRead_row (x p0 : List UInt8) (ws : List (List UInt8)) (hp : Hid (pcs x = p0 :: ws)) (hl : x.length ≤ 24) (k : Int) (h1 : 1 ≤ k) (h2 : k ≤ 14) (hk : Hid (p0 = word k)) (r s t a b : Int) (ok : Bool) (C : Hid (RowC k ws r s t a b ok))
    (w : World) (hT : Tab w) (hE : Errs w) (hM : Max w) :
    Calls Tryz.prog 54 #[.string ⟨x.toArray⟩] w fun e w' => (((ok && opB k r s t a b) = true → e = .returned (.tuple #[.agg #[.int .i64 k, .int .i64 r, .int .i64 s, .int .i64 t, .int .i64 a, .int .i64 b], .bool true])) ∧ ((ok && opB k r s t a b) = false → e = .returned (.tuple #[.agg #[.int .i64 0, .int .i64 0, .int .i64 0, .int .i64 0, .int .i64 0, .int .i64 0], .bool false]))) ∧ Below w.heap.size w w' := by
  have g0 : ¬ (24 : Int) < (x.length : Int) := by omega
  obtain ⟨L, hL⟩ : ∃ L, L = (pcs x).length := ⟨_, rfl⟩
  have hL' : Hid (L = ws.length + 1) := by rw [hL, hp.out]; rfl
  have hL0 : 0 < L := by rw [hL'.out]; omega
  have hL1 : (0 : Int) < (L : Int) := by omega
  have hs : Hid (∀ W, Max W → Calls Tryz.prog 53 #[.string ⟨x.toArray⟩, .string ⟨#[32]⟩] W fun e w' => e = .returned (.slice (some ⟨W.heap.size, 0, none⟩) L L) ∧ w' = W.alloc (.cells (pcsA x) 9)) := fun W hM => by rw [hL]; exact split_any x (by omega) W hM
  go_enter Tryz.func54, Tryz.ntmps54
  go_wp2_with fail
  have hb0 : Below w.heap.size w (w.alloc (.cells #[.int .i64 0, .int .i64 0, .int .i64 0, .int .i64 0, .int .i64 0, .int .i64 0] 43)) := (Below.refl _ _).alloc (Nat.le_refl _) _
  refine (hs.out _ (hM.below hb0)).mono ?_
  rintro e w1 ⟨rfl, hw1⟩
  have hc1 : ∀ i, i < L → w1.cell? ⟨w.heap.size + 1, i, none⟩ = some (.string ⟨((pcs x).getD i []).toArray⟩) := fun i hi => by
    have := pcsA_cell x i (by omega) (w.alloc (.cells #[.int .i64 0, .int .i64 0, .int .i64 0, .int .i64 0, .int .i64 0, .int .i64 0] 43))
    rw [hw1]; simpa using this
  have hB1 : Below w.heap.size w w1 := by rw [hw1]; exact hb0.alloc (by simp) _
  have hz1 : w1.heap.size = w.heap.size + 2 := by rw [hw1]; simp
  have r0 : w1.cell? ⟨w.heap.size, 0, none⟩ = some (.int .i64 0) := by rw [hw1]; simp [go_sem]
  have y0 : w1.frozen? ⟨w.heap.size, 0, none⟩ = false := by rw [hw1]; simp [go_sem]
  have r1 : w1.cell? ⟨w.heap.size, 1, none⟩ = some (.int .i64 0) := by rw [hw1]; simp [go_sem]
  have y1 : w1.frozen? ⟨w.heap.size, 1, none⟩ = false := by rw [hw1]; simp [go_sem]
  have r2 : w1.cell? ⟨w.heap.size, 2, none⟩ = some (.int .i64 0) := by rw [hw1]; simp [go_sem]
  have y2 : w1.frozen? ⟨w.heap.size, 2, none⟩ = false := by rw [hw1]; simp [go_sem]
  have r3 : w1.cell? ⟨w.heap.size, 3, none⟩ = some (.int .i64 0) := by rw [hw1]; simp [go_sem]
  have y3 : w1.frozen? ⟨w.heap.size, 3, none⟩ = false := by rw [hw1]; simp [go_sem]
  have r4 : w1.cell? ⟨w.heap.size, 4, none⟩ = some (.int .i64 0) := by rw [hw1]; simp [go_sem]
  have y4 : w1.frozen? ⟨w.heap.size, 4, none⟩ = false := by rw [hw1]; simp [go_sem]
  have r5 : w1.cell? ⟨w.heap.size, 5, none⟩ = some (.int .i64 0) := by rw [hw1]; simp [go_sem]
  have y5 : w1.frozen? ⟨w.heap.size, 5, none⟩ = false := by rw [hw1]; simp [go_sem]
  have p00 : w1.cell? ⟨w.heap.size + 1, 0, none⟩ = some (.string ⟨p0.toArray⟩) := by rw [hc1 0 hL0, hp.out]; rfl
  have hh1 : Hid (w1.heap.size = w.heap.size + 2) := hz1
  have hc1' : Hid (∀ i, i < L → w1.cell? ⟨w.heap.size + 1, i, none⟩ = some (.string ⟨((pcs x).getD i []).toArray⟩)) := hc1
  clear hw1 hz1 hc1 hL
  go_wp2_with fail
  refine (kindOfWord_any p0 w1).mono ?_
  rintro e w2 ⟨⟨j, hj, rfl⟩, hb2⟩
  obtain rfl : j = k := kw_is h1 h2 hk.out hj
  have hq1 : w.heap.size + 1 < w1.heap.size := by have := hh1.out; omega
  obtain ⟨hd2, hf2⟩ := bcell hb2
  replace r0 : w2.cell? ⟨w.heap.size, 0, none⟩ = some (.int .i64 0) := by rw [hd2 _ _ (by omega)]; exact r0
  replace y0 : w2.frozen? ⟨w.heap.size, 0, none⟩ = false := by rw [hf2 _ _ (by omega)]; exact y0
  replace r1 : w2.cell? ⟨w.heap.size, 1, none⟩ = some (.int .i64 0) := by rw [hd2 _ _ (by omega)]; exact r1
  replace y1 : w2.frozen? ⟨w.heap.size, 1, none⟩ = false := by rw [hf2 _ _ (by omega)]; exact y1
  replace r2 : w2.cell? ⟨w.heap.size, 2, none⟩ = some (.int .i64 0) := by rw [hd2 _ _ (by omega)]; exact r2
  replace y2 : w2.frozen? ⟨w.heap.size, 2, none⟩ = false := by rw [hf2 _ _ (by omega)]; exact y2
  replace r3 : w2.cell? ⟨w.heap.size, 3, none⟩ = some (.int .i64 0) := by rw [hd2 _ _ (by omega)]; exact r3
  replace y3 : w2.frozen? ⟨w.heap.size, 3, none⟩ = false := by rw [hf2 _ _ (by omega)]; exact y3
  replace r4 : w2.cell? ⟨w.heap.size, 4, none⟩ = some (.int .i64 0) := by rw [hd2 _ _ (by omega)]; exact r4
  replace y4 : w2.frozen? ⟨w.heap.size, 4, none⟩ = false := by rw [hf2 _ _ (by omega)]; exact y4
  replace r5 : w2.cell? ⟨w.heap.size, 5, none⟩ = some (.int .i64 0) := by rw [hd2 _ _ (by omega)]; exact r5
  replace y5 : w2.frozen? ⟨w.heap.size, 5, none⟩ = false := by rw [hf2 _ _ (by omega)]; exact y5
  have hc2 : Hid (∀ i, i < L → w2.cell? ⟨w.heap.size + 1, i, none⟩ = some (.string ⟨((pcs x).getD i []).toArray⟩)) := fun i hi => by rw [hd2 _ _ hq1]; exact hc1'.out i hi
  have hq2 : w.heap.size + 1 < w2.heap.size := by have := hb2.size; omega
  have hB2 : Below w.heap.size w w2 := hB1.trans (hb2.mono (by omega))
  clear hb2 hd2 hf2 hc1' p00 hq1 hh1 hB1 hj
  go_wp2_with fail
  refine (formOf_any j w2 h1 h2).mono ?_
  rintro e w3 ⟨hb3, X, Y, Z, rfl, _⟩
  obtain ⟨f0, f1, f2, f3, f4, f5, f6, f7, f8, f9, f10, f11, f12, f13, hrow, hoc⟩ := row_shape j h1 h2 X Y Z
  have C' := C.out X Y Z
  rw [hrow] at C' ⊢
  obtain ⟨hd3, hf3⟩ := bcell hb3
  replace r0 : w3.cell? ⟨w.heap.size, 0, none⟩ = some (.int .i64 0) := by rw [hd3 _ _ (by omega)]; exact r0
  replace y0 : w3.frozen? ⟨w.heap.size, 0, none⟩ = false := by rw [hf3 _ _ (by omega)]; exact y0
  replace r1 : w3.cell? ⟨w.heap.size, 1, none⟩ = some (.int .i64 0) := by rw [hd3 _ _ (by omega)]; exact r1
  replace y1 : w3.frozen? ⟨w.heap.size, 1, none⟩ = false := by rw [hf3 _ _ (by omega)]; exact y1
  replace r2 : w3.cell? ⟨w.heap.size, 2, none⟩ = some (.int .i64 0) := by rw [hd3 _ _ (by omega)]; exact r2
  replace y2 : w3.frozen? ⟨w.heap.size, 2, none⟩ = false := by rw [hf3 _ _ (by omega)]; exact y2
  replace r3 : w3.cell? ⟨w.heap.size, 3, none⟩ = some (.int .i64 0) := by rw [hd3 _ _ (by omega)]; exact r3
  replace y3 : w3.frozen? ⟨w.heap.size, 3, none⟩ = false := by rw [hf3 _ _ (by omega)]; exact y3
  replace r4 : w3.cell? ⟨w.heap.size, 4, none⟩ = some (.int .i64 0) := by rw [hd3 _ _ (by omega)]; exact r4
  replace y4 : w3.frozen? ⟨w.heap.size, 4, none⟩ = false := by rw [hf3 _ _ (by omega)]; exact y4
  replace r5 : w3.cell? ⟨w.heap.size, 5, none⟩ = some (.int .i64 0) := by rw [hd3 _ _ (by omega)]; exact r5
  replace y5 : w3.frozen? ⟨w.heap.size, 5, none⟩ = false := by rw [hf3 _ _ (by omega)]; exact y5
  have hc3 : Hid (∀ i, i < L → w3.cell? ⟨w.heap.size + 1, i, none⟩ = some (.string ⟨((pcs x).getD i []).toArray⟩)) := fun i hi => by rw [hd3 _ _ hq2]; exact hc2.out i hi
  have hq3 : w.heap.size + 1 < w3.heap.size := by have := hb3.size; omega
  have hB3 : Below w.heap.size w w3 := hB2.trans (hb3.mono (by omega))
  have hC : Hid (∀ (B : Nat) (ao : Option Addr) (w : World), (0 < ws.length → ao = some ⟨B, 1, none⟩) → Tab w → Errs w → B < w.heap.size → (∀ i, i < ws.length → w.cell? ⟨B, i + 1, none⟩ = some (.string ⟨(ws.getD i []).toArray⟩)) →
    Calls Tryz.prog 97 #[.agg #[f0, f1, f2, f3, f4, f5, f6, f7, f8, f9, f10, f11, f12, f13], .agg #[.int .i64 j, .int .i64 0, .int .i64 0, .int .i64 0, .int .i64 0, .int .i64 0], .slice ao ws.length ws.length] w fun e w' =>
      (∃ c0 c1 c2 c3 c4 c5 : Int, e = .returned (.tuple #[.agg #[.int .i64 c0, .int .i64 c1, .int .i64 c2, .int .i64 c3, .int .i64 c4, .int .i64 c5], .bool ok]) ∧ (ok = true → c0 = j ∧ c1 = r ∧ c2 = s ∧ c3 = t ∧ c4 = a ∧ c5 = b)) ∧ Below w.heap.size w w') := C'
  have hoc' : Hid (∀ v ∈ #[f0, f1, f2, f3, f4, f5, f6, f7, f8, f9, f10, f11, f12, f13].toList, v.oneCell' = true) := hoc
  clear hb3 hd3 hf3 hc2 hq2 hB2 C C' hrow hoc
  go_wp2_with (refine wpList_store_row rfl 79 (.tmp 6) (.tmp 22) rfl _ _ rfl rfl 79 _ (heap_new (by simp)) (by kernel_rfl) (by kernel_rfl) (by simpa using hoc'.out) ?_; rw [setRow_new (by simp)])
  obtain ⟨v, hv⟩ : ∃ v, v = w3.alloc (.cells #[f0, f1, f2, f3, f4, f5, f6, f7, f8, f9, f10, f11, f12, f13] 79) := ⟨_, rfl⟩
  rw [← hv]
  have q0 : v.cell? ⟨w3.heap.size, 0, none⟩ = some f0 := by rw [hv]; simp [go_sem]
  have q1 : v.cell? ⟨w3.heap.size, 1, none⟩ = some f1 := by rw [hv]; simp [go_sem]
  have q2 : v.cell? ⟨w3.heap.size, 2, none⟩ = some f2 := by rw [hv]; simp [go_sem]
  have q3 : v.cell? ⟨w3.heap.size, 3, none⟩ = some f3 := by rw [hv]; simp [go_sem]
  have q4 : v.cell? ⟨w3.heap.size, 4, none⟩ = some f4 := by rw [hv]; simp [go_sem]
  have q5 : v.cell? ⟨w3.heap.size, 5, none⟩ = some f5 := by rw [hv]; simp [go_sem]
  have q6 : v.cell? ⟨w3.heap.size, 6, none⟩ = some f6 := by rw [hv]; simp [go_sem]
  have q7 : v.cell? ⟨w3.heap.size, 7, none⟩ = some f7 := by rw [hv]; simp [go_sem]
  have q8 : v.cell? ⟨w3.heap.size, 8, none⟩ = some f8 := by rw [hv]; simp [go_sem]
  have q9 : v.cell? ⟨w3.heap.size, 9, none⟩ = some f9 := by rw [hv]; simp [go_sem]
  have q10 : v.cell? ⟨w3.heap.size, 10, none⟩ = some f10 := by rw [hv]; simp [go_sem]
  have q11 : v.cell? ⟨w3.heap.size, 11, none⟩ = some f11 := by rw [hv]; simp [go_sem]
  have q12 : v.cell? ⟨w3.heap.size, 12, none⟩ = some f12 := by rw [hv]; simp [go_sem]
  have q13 : v.cell? ⟨w3.heap.size, 13, none⟩ = some f13 := by rw [hv]; simp [go_sem]
  have lv : w3.heap.size < v.heap.size := by rw [hv]; simp
  have hbv : Below w3.heap.size w3 v := by rw [hv]; exact (Below.refl _ _).alloc (Nat.le_refl _) _
  have hBv : Below w.heap.size w v := hB3.trans (hbv.mono (by omega))
  have hTv := hT.below hBv
  have hEv := hE.below hBv
  obtain ⟨hdv, hfv⟩ := bcell hbv
  replace r0 : v.cell? ⟨w.heap.size, 0, none⟩ = some (.int .i64 0) := by rw [hdv _ _ (by omega)]; exact r0
  replace y0 : v.frozen? ⟨w.heap.size, 0, none⟩ = false := by rw [hfv _ _ (by omega)]; exact y0
  replace r1 : v.cell? ⟨w.heap.size, 1, none⟩ = some (.int .i64 0) := by rw [hdv _ _ (by omega)]; exact r1
  replace y1 : v.frozen? ⟨w.heap.size, 1, none⟩ = false := by rw [hfv _ _ (by omega)]; exact y1
  replace r2 : v.cell? ⟨w.heap.size, 2, none⟩ = some (.int .i64 0) := by rw [hdv _ _ (by omega)]; exact r2
  replace y2 : v.frozen? ⟨w.heap.size, 2, none⟩ = false := by rw [hfv _ _ (by omega)]; exact y2
  replace r3 : v.cell? ⟨w.heap.size, 3, none⟩ = some (.int .i64 0) := by rw [hdv _ _ (by omega)]; exact r3
  replace y3 : v.frozen? ⟨w.heap.size, 3, none⟩ = false := by rw [hfv _ _ (by omega)]; exact y3
  replace r4 : v.cell? ⟨w.heap.size, 4, none⟩ = some (.int .i64 0) := by rw [hdv _ _ (by omega)]; exact r4
  replace y4 : v.frozen? ⟨w.heap.size, 4, none⟩ = false := by rw [hfv _ _ (by omega)]; exact y4
  replace r5 : v.cell? ⟨w.heap.size, 5, none⟩ = some (.int .i64 0) := by rw [hdv _ _ (by omega)]; exact r5
  replace y5 : v.frozen? ⟨w.heap.size, 5, none⟩ = false := by rw [hfv _ _ (by omega)]; exact y5
  have hcv : Hid (∀ i, i < L → v.cell? ⟨w.heap.size + 1, i, none⟩ = some (.string ⟨((pcs x).getD i []).toArray⟩)) := fun i hi => by rw [hdv _ _ hq3]; exact hc3.out i hi
  clear hv hdv hfv hc3 hbv
  have hS0 : SevF w3.heap.size f0 f1 f2 f3 f4 f5 f6 f7 f8 f9 f10 f11 f12 f13 v v := ⟨q0, q1, q2, q3, q4, q5, q6, q7, q8, q9, q10, q11, q12, q13, Below.refl _ _⟩
  have hLL : 1 ≤ L := by omega
  have hLM : (1 : Int) ≤ (L : Int) := by omega
  have hCL : ∀ X, SevF w3.heap.size f0 f1 f2 f3 f4 f5 f6 f7 f8 f9 f10 f11 f12 f13 v X → Calls Tryz.prog 97 #[.agg #[f0, f1, f2, f3, f4, f5, f6, f7, f8, f9, f10, f11, f12, f13], .agg #[.int .i64 j, .int .i64 0, .int .i64 0, .int .i64 0, .int .i64 0, .int .i64 0], .slice (if L = 1 then some ⟨w.heap.size + 1, 0, none⟩ else some ⟨w.heap.size + 1, 1, none⟩) (L - 1) (L - 1)] X fun e w' =>
      (∃ c0 c1 c2 c3 c4 c5 : Int, e = .returned (.tuple #[.agg #[.int .i64 c0, .int .i64 c1, .int .i64 c2, .int .i64 c3, .int .i64 c4, .int .i64 c5], .bool ok]) ∧ Hid (ok = true → c0 = j ∧ c1 = r ∧ c2 = s ∧ c3 = t ∧ c4 = a ∧ c5 = b)) ∧ Below X.heap.size X w' := fun X hX => by
    have hb := SevF.below hX
    have e : L - 1 = ws.length := by have := hL'.out; omega
    rw [e]
    refine hC.out (w.heap.size + 1) _ X (fun h => if_neg (by omega)) (hTv.below hb) (hEv.below hb) (by have := hb.size; omega) (fun i hi => ?_)
    rw [hb.cell (p := ⟨w.heap.size + 1, i + 1, none⟩) (by dsimp only; omega), hcv.out (i + 1) (by omega), hp.out]; rfl
  clear hC hcv hTv hEv hs hoc'
  go_cut [7, 8] from 27 to 35 (fun s7 s8 wc => (∃ (nb : Nat) (c0 c1 c2 c3 c4 c5 : Int), s8 = .pointer (some ⟨nb, 0, none⟩) ∧ s7 = .bool ok ∧ (ok = true → c0 = j ∧ c1 = r ∧ c2 = s ∧ c3 = t ∧ c4 = a ∧ c5 = b) ∧ wc.cell? ⟨nb, 0, none⟩ = some (.int .i64 c0) ∧ wc.cell? ⟨nb, 1, none⟩ = some (.int .i64 c1) ∧ wc.cell? ⟨nb, 2, none⟩ = some (.int .i64 c2) ∧ wc.cell? ⟨nb, 3, none⟩ = some (.int .i64 c3) ∧ wc.cell? ⟨nb, 4, none⟩ = some (.int .i64 c4) ∧ wc.cell? ⟨nb, 5, none⟩ = some (.int .i64 c5)) ∧ Below v.heap.size v wc)
  case first =>
    by_cases hL2 : L = 1
    · subst hL2
      have hCM : ∀ X, SevF w3.heap.size f0 f1 f2 f3 f4 f5 f6 f7 f8 f9 f10 f11 f12 f13 v X → Calls Tryz.prog 97 #[.agg #[f0, f1, f2, f3, f4, f5, f6, f7, f8, f9, f10, f11, f12, f13], .agg #[.int .i64 j, .int .i64 0, .int .i64 0, .int .i64 0, .int .i64 0, .int .i64 0], .slice (some ⟨w.heap.size + 1, 0, none⟩) (0) (0)] X fun e w' =>
        (∃ c0 c1 c2 c3 c4 c5 : Int, e = .returned (.tuple #[.agg #[.int .i64 c0, .int .i64 c1, .int .i64 c2, .int .i64 c3, .int .i64 c4, .int .i64 c5], .bool ok]) ∧ Hid (ok = true → c0 = j ∧ c1 = r ∧ c2 = s ∧ c3 = t ∧ c4 = a ∧ c5 = b)) ∧ Below X.heap.size X w' := fun X hX => by have h := hCL X hX; rw [if_pos rfl] at h; exact h
      clear hCL
      go_region_held3 (fun w' => w'.cell? ⟨w3.heap.size, 0, none⟩ = some f0 ∧ w'.cell? ⟨w3.heap.size, 1, none⟩ = some f1 ∧ w'.cell? ⟨w3.heap.size, 2, none⟩ = some f2 ∧ w'.cell? ⟨w3.heap.size, 3, none⟩ = some f3 ∧ w'.cell? ⟨w3.heap.size, 4, none⟩ = some f4 ∧ w'.cell? ⟨w3.heap.size, 5, none⟩ = some f5 ∧ w'.cell? ⟨w3.heap.size, 6, none⟩ = some f6 ∧ w'.cell? ⟨w3.heap.size, 7, none⟩ = some f7 ∧ w'.cell? ⟨w3.heap.size, 8, none⟩ = some f8 ∧ w'.cell? ⟨w3.heap.size, 9, none⟩ = some f9 ∧ w'.cell? ⟨w3.heap.size, 10, none⟩ = some f10 ∧ w'.cell? ⟨w3.heap.size, 11, none⟩ = some f11 ∧ w'.cell? ⟨w3.heap.size, 12, none⟩ = some f12 ∧ w'.cell? ⟨w3.heap.size, 13, none⟩ = some f13 ∧ Below v.heap.size v w')
        (first | (with_reducible refine sevF_six lv ?_ (Nat.le_refl _) _ _ _ _ _ _; with_reducible assumption) | with_reducible exact sevF_drew lv (by with_reducible assumption) | with_reducible exact sevF_call lv (by with_reducible assumption) hbx | with_reducible exact sevF_alloc lv (by with_reducible assumption) _ | with_reducible exact sevF_drew lv (sevF_alloc lv hS0 _) | with_reducible exact sevF_realloc lv (by with_reducible assumption) (sz_of hbx) _)
        (first
          | (go_at_call 97; refine (hCM _ (by with_reducible assumption)).mono ?_; rintro e wx ⟨⟨c0, c1, c2, c3, c4, c5, rfl, hcc⟩, hbx⟩; first | (with_reducible refine (fun hnx => ?_) (nx_of hbx); obtain ⟨a0, a1, a2, a3, a4, a5, b0, b1, b2, b3, b4, b5⟩ := hnx) | (with_reducible refine (fun hnx => ?_) (nx_of2 hbx); obtain ⟨a0, a1, a2, a3, a4, a5, b0, b1, b2, b3, b4, b5⟩ := hnx) | skip))
      all_goals go_wp2_with fail
      all_goals go_meet
      all_goals refine ⟨⟨_, c0, c1, c2, c3, c4, c5, rfl, rfl, hcc, ?_, ?_, ?_, ?_, ?_, ?_⟩, ?_⟩
      all_goals first | (simp [go_sem]; done) | (simp [go_sem, a0, a1, a2, a3, a4, a5]; done) | exact SevF.below (by with_reducible assumption)
    · have hCM : ∀ X, SevF w3.heap.size f0 f1 f2 f3 f4 f5 f6 f7 f8 f9 f10 f11 f12 f13 v X → Calls Tryz.prog 97 #[.agg #[f0, f1, f2, f3, f4, f5, f6, f7, f8, f9, f10, f11, f12, f13], .agg #[.int .i64 j, .int .i64 0, .int .i64 0, .int .i64 0, .int .i64 0, .int .i64 0], .slice (some ⟨w.heap.size + 1, 1, none⟩) (L - 1) (L - 1)] X fun e w' =>
        (∃ c0 c1 c2 c3 c4 c5 : Int, e = .returned (.tuple #[.agg #[.int .i64 c0, .int .i64 c1, .int .i64 c2, .int .i64 c3, .int .i64 c4, .int .i64 c5], .bool ok]) ∧ Hid (ok = true → c0 = j ∧ c1 = r ∧ c2 = s ∧ c3 = t ∧ c4 = a ∧ c5 = b)) ∧ Below X.heap.size X w' := fun X hX => by have h := hCL X hX; rw [if_neg hL2] at h; exact h
      clear hCL
      go_region_held3 (fun w' => w'.cell? ⟨w3.heap.size, 0, none⟩ = some f0 ∧ w'.cell? ⟨w3.heap.size, 1, none⟩ = some f1 ∧ w'.cell? ⟨w3.heap.size, 2, none⟩ = some f2 ∧ w'.cell? ⟨w3.heap.size, 3, none⟩ = some f3 ∧ w'.cell? ⟨w3.heap.size, 4, none⟩ = some f4 ∧ w'.cell? ⟨w3.heap.size, 5, none⟩ = some f5 ∧ w'.cell? ⟨w3.heap.size, 6, none⟩ = some f6 ∧ w'.cell? ⟨w3.heap.size, 7, none⟩ = some f7 ∧ w'.cell? ⟨w3.heap.size, 8, none⟩ = some f8 ∧ w'.cell? ⟨w3.heap.size, 9, none⟩ = some f9 ∧ w'.cell? ⟨w3.heap.size, 10, none⟩ = some f10 ∧ w'.cell? ⟨w3.heap.size, 11, none⟩ = some f11 ∧ w'.cell? ⟨w3.heap.size, 12, none⟩ = some f12 ∧ w'.cell? ⟨w3.heap.size, 13, none⟩ = some f13 ∧ Below v.heap.size v w')
        (first | (with_reducible refine sevF_six lv ?_ (Nat.le_refl _) _ _ _ _ _ _; with_reducible assumption) | with_reducible exact sevF_drew lv (by with_reducible assumption) | with_reducible exact sevF_call lv (by with_reducible assumption) hbx | with_reducible exact sevF_alloc lv (by with_reducible assumption) _ | with_reducible exact sevF_drew lv (sevF_alloc lv hS0 _) | with_reducible exact sevF_realloc lv (by with_reducible assumption) (sz_of hbx) _)
        (first
          | (go_at_call 97; refine (hCM _ (by with_reducible assumption)).mono ?_; rintro e wx ⟨⟨c0, c1, c2, c3, c4, c5, rfl, hcc⟩, hbx⟩; first | (with_reducible refine (fun hnx => ?_) (nx_of hbx); obtain ⟨a0, a1, a2, a3, a4, a5, b0, b1, b2, b3, b4, b5⟩ := hnx) | (with_reducible refine (fun hnx => ?_) (nx_of2 hbx); obtain ⟨a0, a1, a2, a3, a4, a5, b0, b1, b2, b3, b4, b5⟩ := hnx) | skip))
      all_goals go_wp2_with fail
      all_goals go_meet
      all_goals refine ⟨⟨_, c0, c1, c2, c3, c4, c5, rfl, rfl, hcc, ?_, ?_, ?_, ?_, ?_, ?_⟩, ?_⟩
      all_goals first | (simp [go_sem]; done) | (simp [go_sem, a0, a1, a2, a3, a4, a5]; done) | exact SevF.below (by with_reducible assumption)
  case rest =>
    obtain ⟨⟨nb, c0, c1, c2, c3, c4, c5, rfl, rfl, hcc, n0, n1, n2, n3, n4, n5⟩, hbc⟩ := hcut
    obtain ⟨hdc, hfc⟩ := bcell hbc
    replace r0 : wc.cell? ⟨w.heap.size, 0, none⟩ = some (.int .i64 0) := by rw [hdc _ _ (by omega)]; exact r0
    replace y0 : wc.frozen? ⟨w.heap.size, 0, none⟩ = false := by rw [hfc _ _ (by omega)]; exact y0
    replace r1 : wc.cell? ⟨w.heap.size, 1, none⟩ = some (.int .i64 0) := by rw [hdc _ _ (by omega)]; exact r1
    replace y1 : wc.frozen? ⟨w.heap.size, 1, none⟩ = false := by rw [hfc _ _ (by omega)]; exact y1
    replace r2 : wc.cell? ⟨w.heap.size, 2, none⟩ = some (.int .i64 0) := by rw [hdc _ _ (by omega)]; exact r2
    replace y2 : wc.frozen? ⟨w.heap.size, 2, none⟩ = false := by rw [hfc _ _ (by omega)]; exact y2
    replace r3 : wc.cell? ⟨w.heap.size, 3, none⟩ = some (.int .i64 0) := by rw [hdc _ _ (by omega)]; exact r3
    replace y3 : wc.frozen? ⟨w.heap.size, 3, none⟩ = false := by rw [hfc _ _ (by omega)]; exact y3
    replace r4 : wc.cell? ⟨w.heap.size, 4, none⟩ = some (.int .i64 0) := by rw [hdc _ _ (by omega)]; exact r4
    replace y4 : wc.frozen? ⟨w.heap.size, 4, none⟩ = false := by rw [hfc _ _ (by omega)]; exact y4
    replace r5 : wc.cell? ⟨w.heap.size, 5, none⟩ = some (.int .i64 0) := by rw [hdc _ _ (by omega)]; exact r5
    replace y5 : wc.frozen? ⟨w.heap.size, 5, none⟩ = false := by rw [hfc _ _ (by omega)]; exact y5
    have hBc : Below w.heap.size w wc := hBv.trans (hbc.mono (by omega))
    have lwc : w.heap.size < wc.heap.size := by have := hbc.size; omega
    clear hdc hfc hCL hS0 q0 q1 q2 q3 q4 q5 q6 q7 q8 q9 q10 q11 q12 q13 hBv hbc
    cases ok with
    | false =>
      go_wp2_with fail
      refine bodyPost_ret (v := .tuple #[.agg #[.int .i64 0, .int .i64 0, .int .i64 0, .int .i64 0, .int .i64 0, .int .i64 0], .bool false]) (by simp [results, Tryz.results54, go_sem, *]) rfl ⟨⟨fun h => by simp at h, fun _ => rfl⟩, six_set hBc _ _ _ _ _ _⟩
    | true =>
      obtain ⟨rfl, rfl, rfl, rfl, rfl, rfl⟩ := hcc rfl
      go_wp2_with fail
      refine (implOpOk_any _ _ _ _ _ _ _).mono ?_
      rintro e w4 ⟨rfl, hb4⟩
      have lnb : nb < wc.heap.size := World.block_lt_of_cell? _ _ n0
      obtain ⟨hd4, hf4⟩ := bcell hb4
      replace r0 : w4.cell? ⟨w.heap.size, 0, none⟩ = some (.int .i64 0) := by rw [hd4 _ _ lwc]; exact r0
      replace y0 : w4.frozen? ⟨w.heap.size, 0, none⟩ = false := by rw [hf4 _ _ lwc]; exact y0
      replace n0 : w4.cell? ⟨nb, 0, none⟩ = some (.int .i64 c0) := by rw [hd4 _ _ lnb]; exact n0
      replace r1 : w4.cell? ⟨w.heap.size, 1, none⟩ = some (.int .i64 0) := by rw [hd4 _ _ lwc]; exact r1
      replace y1 : w4.frozen? ⟨w.heap.size, 1, none⟩ = false := by rw [hf4 _ _ lwc]; exact y1
      replace n1 : w4.cell? ⟨nb, 1, none⟩ = some (.int .i64 c1) := by rw [hd4 _ _ lnb]; exact n1
      replace r2 : w4.cell? ⟨w.heap.size, 2, none⟩ = some (.int .i64 0) := by rw [hd4 _ _ lwc]; exact r2
      replace y2 : w4.frozen? ⟨w.heap.size, 2, none⟩ = false := by rw [hf4 _ _ lwc]; exact y2
      replace n2 : w4.cell? ⟨nb, 2, none⟩ = some (.int .i64 c2) := by rw [hd4 _ _ lnb]; exact n2
      replace r3 : w4.cell? ⟨w.heap.size, 3, none⟩ = some (.int .i64 0) := by rw [hd4 _ _ lwc]; exact r3
      replace y3 : w4.frozen? ⟨w.heap.size, 3, none⟩ = false := by rw [hf4 _ _ lwc]; exact y3
      replace n3 : w4.cell? ⟨nb, 3, none⟩ = some (.int .i64 c3) := by rw [hd4 _ _ lnb]; exact n3
      replace r4 : w4.cell? ⟨w.heap.size, 4, none⟩ = some (.int .i64 0) := by rw [hd4 _ _ lwc]; exact r4
      replace y4 : w4.frozen? ⟨w.heap.size, 4, none⟩ = false := by rw [hf4 _ _ lwc]; exact y4
      replace n4 : w4.cell? ⟨nb, 4, none⟩ = some (.int .i64 c4) := by rw [hd4 _ _ lnb]; exact n4
      replace r5 : w4.cell? ⟨w.heap.size, 5, none⟩ = some (.int .i64 0) := by rw [hd4 _ _ lwc]; exact r5
      replace y5 : w4.frozen? ⟨w.heap.size, 5, none⟩ = false := by rw [hf4 _ _ lwc]; exact y5
      replace n5 : w4.cell? ⟨nb, 5, none⟩ = some (.int .i64 c5) := by rw [hd4 _ _ lnb]; exact n5
      have hB4 : Below w.heap.size w w4 := hBc.trans (hb4.mono (by omega))
      clear hd4 hf4 hb4 hBc
      cases hg : opB c0 c1 c2 c3 c4 c5 with
      | true =>
        go_wp2_with fail
        refine bodyPost_ret (v := .tuple #[.agg #[.int .i64 c0, .int .i64 c1, .int .i64 c2, .int .i64 c3, .int .i64 c4, .int .i64 c5], .bool true]) (by simp [results, Tryz.results54, go_sem, *]) rfl ⟨⟨fun _ => rfl, fun h => by simp [hg] at h⟩, six_set hB4 _ _ _ _ _ _⟩
      | false =>
        go_wp2_with fail
        refine bodyPost_ret (v := .tuple #[.agg #[.int .i64 0, .int .i64 0, .int .i64 0, .int .i64 0, .int .i64 0, .int .i64 0], .bool false]) (by simp [results, Tryz.results54, go_sem, *]) rfl ⟨⟨fun h => by simp [hg] at h, fun _ => rfl⟩, six_set hB4 _ _ _ _ _ _⟩
set_option maxRecDepth 20000 in
set_option maxHeartbeats 4000000 in
theorem opRead_long (x : List UInt8) (hl : 24 < x.length) (w : World) :
    Calls Tryz.prog 54 #[.string ⟨x.toArray⟩] w fun e w' => e = .returned (.tuple #[.agg #[.int .i64 0, .int .i64 0, .int .i64 0, .int .i64 0, .int .i64 0, .int .i64 0], .bool false]) ∧ Below w.heap.size w w' := by
  have g0 : (24 : Int) < (x.length : Int) := by omega
  go_enter Tryz.func54, Tryz.ntmps54
  go_wp2_with fail
  refine bodyPost_ret (v := .tuple #[.agg #[.int .i64 0, .int .i64 0, .int .i64 0, .int .i64 0, .int .i64 0, .int .i64 0], .bool false]) (by simp [results, Tryz.results54, go_sem, *]) rfl ⟨rfl, (Below.refl _ _).alloc (Nat.le_refl _) _⟩
set_option maxRecDepth 20000 in
set_option maxHeartbeats 4000000 in
theorem opRead_none (x p0 : List UInt8) (ws : List (List UInt8)) (hp : Hid (pcs x = p0 :: ws)) (hl : x.length ≤ 24) (hk : Hid (∀ j, 1 ≤ j → j ≤ 14 → p0 ≠ word j)) (w : World) (hM : Max w) :
    Calls Tryz.prog 54 #[.string ⟨x.toArray⟩] w fun e w' => e = .returned (.tuple #[.agg #[.int .i64 0, .int .i64 0, .int .i64 0, .int .i64 0, .int .i64 0, .int .i64 0], .bool false]) ∧ Below w.heap.size w w' := by
  have g0 : ¬ (24 : Int) < (x.length : Int) := by omega
  obtain ⟨L, hL⟩ : ∃ L, L = (pcs x).length := ⟨_, rfl⟩
  have hL' : Hid (L = ws.length + 1) := by rw [hL, hp.out]; rfl
  have hL0 : 0 < L := by rw [hL'.out]; omega
  have hL1 : (0 : Int) < (L : Int) := by omega
  have hs : Hid (∀ W, Max W → Calls Tryz.prog 53 #[.string ⟨x.toArray⟩, .string ⟨#[32]⟩] W fun e w' => e = .returned (.slice (some ⟨W.heap.size, 0, none⟩) L L) ∧ w' = W.alloc (.cells (pcsA x) 9)) := fun W hM => by rw [hL]; exact split_any x (by omega) W hM
  go_enter Tryz.func54, Tryz.ntmps54
  go_wp2_with fail
  have hb0 : Below w.heap.size w (w.alloc (.cells #[.int .i64 0, .int .i64 0, .int .i64 0, .int .i64 0, .int .i64 0, .int .i64 0] 43)) := (Below.refl _ _).alloc (Nat.le_refl _) _
  refine (hs.out _ (hM.below hb0)).mono ?_
  rintro e w1 ⟨rfl, hw1⟩
  have p00 : w1.cell? ⟨w.heap.size + 1, 0, none⟩ = some (.string ⟨p0.toArray⟩) := by
    have h := pcsA_cell x 0 (by omega) (w.alloc (.cells #[.int .i64 0, .int .i64 0, .int .i64 0, .int .i64 0, .int .i64 0, .int .i64 0] 43))
    rw [hp.out] at h
    rw [hw1]; simpa using h
  have hB1 : Below w.heap.size w w1 := by rw [hw1]; exact hb0.alloc (by simp) _
  have hz1 : w.heap.size + 1 < w1.heap.size := by rw [hw1]; simp
  have r0 : w1.cell? ⟨w.heap.size, 0, none⟩ = some (.int .i64 0) := by rw [hw1]; simp [go_sem]
  have y0 : w1.frozen? ⟨w.heap.size, 0, none⟩ = false := by rw [hw1]; simp [go_sem]
  have r1 : w1.cell? ⟨w.heap.size, 1, none⟩ = some (.int .i64 0) := by rw [hw1]; simp [go_sem]
  have y1 : w1.frozen? ⟨w.heap.size, 1, none⟩ = false := by rw [hw1]; simp [go_sem]
  have r2 : w1.cell? ⟨w.heap.size, 2, none⟩ = some (.int .i64 0) := by rw [hw1]; simp [go_sem]
  have y2 : w1.frozen? ⟨w.heap.size, 2, none⟩ = false := by rw [hw1]; simp [go_sem]
  have r3 : w1.cell? ⟨w.heap.size, 3, none⟩ = some (.int .i64 0) := by rw [hw1]; simp [go_sem]
  have y3 : w1.frozen? ⟨w.heap.size, 3, none⟩ = false := by rw [hw1]; simp [go_sem]
  have r4 : w1.cell? ⟨w.heap.size, 4, none⟩ = some (.int .i64 0) := by rw [hw1]; simp [go_sem]
  have y4 : w1.frozen? ⟨w.heap.size, 4, none⟩ = false := by rw [hw1]; simp [go_sem]
  have r5 : w1.cell? ⟨w.heap.size, 5, none⟩ = some (.int .i64 0) := by rw [hw1]; simp [go_sem]
  have y5 : w1.frozen? ⟨w.heap.size, 5, none⟩ = false := by rw [hw1]; simp [go_sem]
  clear hw1 hL hs
  go_wp2_with fail
  refine (kindOfWord_any p0 w1).mono ?_
  rintro e w2 ⟨⟨j, hj, rfl⟩, hb2⟩
  obtain rfl : j = 0 := by
    rcases hj with ⟨a, b, e⟩ | ⟨e, _⟩
    · exact absurd e (hk.out j a b)
    · exact e
  obtain ⟨hd2, hf2⟩ := bcell hb2
  replace r0 : w2.cell? ⟨w.heap.size, 0, none⟩ = some (.int .i64 0) := by rw [hd2 _ _ (by omega)]; exact r0
  replace y0 : w2.frozen? ⟨w.heap.size, 0, none⟩ = false := by rw [hf2 _ _ (by omega)]; exact y0
  replace r1 : w2.cell? ⟨w.heap.size, 1, none⟩ = some (.int .i64 0) := by rw [hd2 _ _ (by omega)]; exact r1
  replace y1 : w2.frozen? ⟨w.heap.size, 1, none⟩ = false := by rw [hf2 _ _ (by omega)]; exact y1
  replace r2 : w2.cell? ⟨w.heap.size, 2, none⟩ = some (.int .i64 0) := by rw [hd2 _ _ (by omega)]; exact r2
  replace y2 : w2.frozen? ⟨w.heap.size, 2, none⟩ = false := by rw [hf2 _ _ (by omega)]; exact y2
  replace r3 : w2.cell? ⟨w.heap.size, 3, none⟩ = some (.int .i64 0) := by rw [hd2 _ _ (by omega)]; exact r3
  replace y3 : w2.frozen? ⟨w.heap.size, 3, none⟩ = false := by rw [hf2 _ _ (by omega)]; exact y3
  replace r4 : w2.cell? ⟨w.heap.size, 4, none⟩ = some (.int .i64 0) := by rw [hd2 _ _ (by omega)]; exact r4
  replace y4 : w2.frozen? ⟨w.heap.size, 4, none⟩ = false := by rw [hf2 _ _ (by omega)]; exact y4
  replace r5 : w2.cell? ⟨w.heap.size, 5, none⟩ = some (.int .i64 0) := by rw [hd2 _ _ (by omega)]; exact r5
  replace y5 : w2.frozen? ⟨w.heap.size, 5, none⟩ = false := by rw [hf2 _ _ (by omega)]; exact y5
  have hq2 : w.heap.size + 1 < w2.heap.size := by have := hb2.size; omega
  have hB2 : Below w.heap.size w w2 := hB1.trans (hb2.mono (by omega))
  clear hb2 hd2 hf2 p00 hz1 hB1 hj
  go_wp2_with fail
  refine (formOf_none 0 w2 (by omega)).mono ?_
  rintro e w3 ⟨rfl, hb3⟩
  have hLe : L0.toArray = #[.string ⟨#[]⟩, .nilFunc, .nilFunc, .nilFunc, .nilFunc, .nilFunc, .nilFunc, .nilFunc, .nilFunc, .nilFunc, .nilFunc, .nilFunc, .nilFunc, .slice none 0 0] := rfl
  rw [hLe]
  clear hLe
  obtain ⟨hd3, hf3⟩ := bcell hb3
  replace r0 : w3.cell? ⟨w.heap.size, 0, none⟩ = some (.int .i64 0) := by rw [hd3 _ _ (by omega)]; exact r0
  replace y0 : w3.frozen? ⟨w.heap.size, 0, none⟩ = false := by rw [hf3 _ _ (by omega)]; exact y0
  replace r1 : w3.cell? ⟨w.heap.size, 1, none⟩ = some (.int .i64 0) := by rw [hd3 _ _ (by omega)]; exact r1
  replace y1 : w3.frozen? ⟨w.heap.size, 1, none⟩ = false := by rw [hf3 _ _ (by omega)]; exact y1
  replace r2 : w3.cell? ⟨w.heap.size, 2, none⟩ = some (.int .i64 0) := by rw [hd3 _ _ (by omega)]; exact r2
  replace y2 : w3.frozen? ⟨w.heap.size, 2, none⟩ = false := by rw [hf3 _ _ (by omega)]; exact y2
  replace r3 : w3.cell? ⟨w.heap.size, 3, none⟩ = some (.int .i64 0) := by rw [hd3 _ _ (by omega)]; exact r3
  replace y3 : w3.frozen? ⟨w.heap.size, 3, none⟩ = false := by rw [hf3 _ _ (by omega)]; exact y3
  replace r4 : w3.cell? ⟨w.heap.size, 4, none⟩ = some (.int .i64 0) := by rw [hd3 _ _ (by omega)]; exact r4
  replace y4 : w3.frozen? ⟨w.heap.size, 4, none⟩ = false := by rw [hf3 _ _ (by omega)]; exact y4
  replace r5 : w3.cell? ⟨w.heap.size, 5, none⟩ = some (.int .i64 0) := by rw [hd3 _ _ (by omega)]; exact r5
  replace y5 : w3.frozen? ⟨w.heap.size, 5, none⟩ = false := by rw [hf3 _ _ (by omega)]; exact y5
  have hq3 : w.heap.size < w3.heap.size := by have := hb3.size; omega
  have hB3 : Below w.heap.size w w3 := hB2.trans (hb3.mono (by omega))
  clear hb3 hd3 hf3 hB2 hq2
  go_wp2_with (refine wpList_store_row rfl 79 (.tmp 6) (.tmp 22) rfl _ _ rfl rfl 79 _ (heap_new (by simp)) (by kernel_rfl) (by kernel_rfl) (by simp [Value.oneCell']) ?_; rw [setRow_new (by simp)])
  refine bodyPost_ret (v := .tuple #[.agg #[.int .i64 0, .int .i64 0, .int .i64 0, .int .i64 0, .int .i64 0, .int .i64 0], .bool false]) (by simp [results, Tryz.results54, go_sem, *]) rfl ⟨rfl, (six_set hB3 _ _ _ _ _ _).alloc (by simp [World.setCell]; omega) _⟩
/-- the ok step whose text it is, and true; else nothing and false -/
theorem implOpRead_any (x : List UInt8) : ∃ k r s t a b ok, ReadIs x k r s t a b ok ∧ ∀ w, Tab w → Errs w → Max w →
    Calls Tryz.prog 54 #[.string ⟨x.toArray⟩] w fun e w' => e = .returned (.tuple #[.agg #[.int .i64 k, .int .i64 r, .int .i64 s, .int .i64 t, .int .i64 a, .int .i64 b], .bool ok]) ∧ Below w.heap.size w w' := by
  have no : ∀ h : (∀ k r s t a b, opB k r s t a b = true → x ≠ opTxt k r s t a b), ReadIs x 0 0 0 0 0 0 false := fun h => .inr ⟨rfl, by simp, h⟩
  rcases Decidable.em (24 < x.length) with hl | hl
  · exact ⟨0, 0, 0, 0, 0, 0, false, no (fun k r s t a b ho e => by have := opTxt_len ho; rw [← e] at this; omega), fun w _ _ _ => opRead_long x hl w⟩
  obtain ⟨p0, ws, hp⟩ := pcs_cons x
  rcases Classical.em (∃ k, 1 ≤ k ∧ k ≤ 14 ∧ p0 = word k) with hk | hk
  rotate_left
  · exact ⟨0, 0, 0, 0, 0, 0, false, no (fun k r s t a b ho e => hk ⟨k, (opIs_of ho).k1, (opIs_of ho).k2, word_of hp ho e⟩), fun w _ _ hM => opRead_none x p0 ws hp (by omega) (fun j a b e => hk ⟨j, a, b, e⟩) w hM⟩
  obtain ⟨k, h1, h2, hk⟩ := hk
  obtain ⟨r, s, t, a, b, ok, hr, C⟩ := readRow_any k h1 h2 ws (fun y hy => by have := (pcs_len x).2 y (by rw [hp]; exact List.mem_cons_of_mem _ hy); omega)
  have W := fun w hT hE hM => opRead_row x p0 ws hp (by omega) k h1 h2 hk r s t a b ok C w hT hE hM
  have hseg : ∀ k' r' s' t' a' b', opB k' r' s' t' a' b' = true → x = opTxt k' r' s' t' a' b' → k' = k ∧ Segs k ws r' s' t' a' b' := fun k' r' s' t' a' b' ho e => by
    have o := opIs_of ho
    have hw := word_of hp ho e
    have hkk : k' = k := kw_is h1 h2 hk (.inl ⟨o.k1, o.k2, hw⟩)
    subst hkk
    rw [e, pcs_op ho] at hp
    injection hp with _ h4
    exact ⟨rfl, ⟨h4.symm, by have := o.r1; omega, by have := o.r2; omega, by have := o.s1; omega, by have := o.s2; omega, by have := o.t1; omega, by have := o.t2; omega, o.v, o.rN, o.sN, o.tN, o.vN⟩⟩
  cases hg : (ok && opB k r s t a b) with
  | true =>
    rw [hg] at W
    rw [Bool.and_eq_true] at hg
    refine ⟨k, r, s, t, a, b, true, .inl ⟨rfl, hg.2, ?_⟩, fun w hT hE hM => (W w hT hE hM).mono fun e w' h => ⟨h.1.1 rfl, h.2⟩⟩
    rcases hr with ⟨_, e, _⟩ | ⟨e, _⟩
    · rw [← join_pcs x, hp, hk, e, ← pcs_op hg.2, join_pcs]
    · rw [e] at hg; simp at hg
  | false =>
    rw [hg] at W
    refine ⟨0, 0, 0, 0, 0, 0, false, no (fun k' r' s' t' a' b' ho e => ?_), fun w hT hE hM => (W w hT hE hM).mono fun e w' h => ⟨h.1.2 rfl, h.2⟩⟩
    obtain ⟨rfl, S⟩ := hseg _ _ _ _ _ _ ho e
    rcases hr with ⟨h3, _, u⟩ | ⟨_, u⟩
    · obtain ⟨rfl, rfl, rfl, rfl, rfl⟩ := u _ _ _ _ _ S
      rw [h3, ho] at hg; simp at hg
    · exact u _ _ _ _ _ S
end Go.Proofs.YtekmjgkjpdhedaaGreatDoor
namespace Go.Proofs.YtekmjgkjpdhedaaGreatDoor
open Go.ChangeShapes Go.WideShapes Go.ChangeAt Go.RowKit Go.Joins
def pcl : List UInt8 → List (List UInt8)
  | [] => [[]]
  | c :: l => if c = 10 then [] :: pcl l else (c :: (pcl l).headD []) :: (pcl l).tail
theorem pcl_nl (l : List UInt8) : pcl (10 :: l) = [] :: pcl l := by rw [pcl, if_pos rfl]
theorem pcl_other {c : UInt8} (l : List UInt8) (h : c ≠ 10) : pcl (c :: l) = (c :: (pcl l).headD []) :: (pcl l).tail := by rw [pcl, if_neg h]
theorem pcl_some : ∀ t : List UInt8, pcl t ≠ []
  | [] => by simp [pcl]
  | c :: l => by
    by_cases h : c = 10
    · subst h; rw [pcl_nl]; simp
    · rw [pcl_other l h]; simp
theorem pcl_cons (t : List UInt8) : ∃ a r, pcl t = a :: r := by
  cases h : pcl t with
  | nil => exact absurd h (pcl_some t)
  | cons a r => exact ⟨a, r, rfl⟩
theorem cutStepAt_nl (out : List (List UInt8)) : cutStepAt 10 out 10 = out ++ [[]] := by rw [cutStepAt, if_pos rfl]
theorem cutStepAt_other (P : List (List UInt8)) (q : List UInt8) {c : UInt8} (h : c ≠ 10) : cutStepAt 10 (P ++ [q]) c = P ++ [q ++ [c]] := by
  rw [cutStepAt, if_neg h]; simp
/-- the library's split -/
theorem splitK_pcl : ∀ t : List UInt8, Lib.splitK [10] 0 (Lib.count t [10]) t = pcl t
  | [] => by decide
  | c :: l => by
    have ih := splitK_pcl l
    by_cases h : c = 10
    · subst h
      rw [Lib.count_cons_eq, Nat.add_comm, pcl_nl, ← ih]
      have e : Lib.index (10 :: l) [10] = 0 := by simp [Lib.index]
      rw [Lib.splitK, e]; simp
    · rw [Lib.count_cons_ne _ _ _ h, pcl_other l h, ← ih]
      cases hk : Lib.count l [10] with
      | zero => simp [Lib.splitK]
      | succ k =>
        obtain ⟨i, hi⟩ := Lib.index_of_count (s := l) (old := [10]) (by omega)
        have e : Lib.index (c :: l) [10] = (i : Int) + 1 := by
          have hp : ([10] : List UInt8).isPrefixOf (c :: l) = false := by simp [List.isPrefixOf]; exact fun e => h e.symm
          rw [Lib.index, if_neg (by rw [hp]; simp), hi, if_neg (by simp <;> omega)]
        have e1 : ((i : Int) + 1 == -1) = false := by simp <;> omega
        have e2 : ((i : Int) == -1) = false := by simp <;> omega
        have e3 : ((i : Int) + 1).toNat = i + 1 := by omega
        rw [Lib.splitK, Lib.splitK, e, hi, e1, e2, e3]
        simp
/-- the cut byte by byte -/
theorem fold_pcl : ∀ (t : List UInt8) (P : List (List UInt8)) (q : List UInt8), t.foldl (cutStepAt 10) (P ++ [q]) = P ++ ((q ++ (pcl t).headD []) :: (pcl t).tail)
  | [], P, q => by simp [pcl]
  | c :: l, P, q => by
    by_cases h : c = 10
    · subst h
      rw [List.foldl_cons, cutStepAt_nl, fold_pcl l (P ++ [q]) [], pcl_nl]
      obtain ⟨a, r, e⟩ := pcl_cons l
      simp [e]
    · rw [List.foldl_cons, cutStepAt_other P q h, fold_pcl l P (q ++ [c]), pcl_other l h]
      simp
theorem cuts_pcl (t : List UInt8) : cutsAt 10 t = pcl t := by
  have := fold_pcl t [] []
  unfold cutsAt
  simp at this
  rw [this]
  obtain ⟨a, r, e⟩ := pcl_cons t
  simp [e]
/-- the lines of a text, in memory -/
def linA (t : List UInt8) : Array Value := ((cutsAt 10 t).map fun x => Value.string ⟨x.toArray⟩).toArray
theorem split10_any (t : List UInt8) (ht : t.length ≤ 1048576) (w : World) (hM : Max w) :
    Calls Tryz.prog 53 #[.string ⟨t.toArray⟩, .string ⟨#[10]⟩] w fun e w' => e = .returned (.slice (some ⟨w.heap.size, 0, none⟩) (cutsAt 10 t).length (cutsAt 10 t).length) ∧ w' = w.alloc (.cells (linA t) 9) := by
  obtain ⟨m, hM⟩ := hM
  have hs : (⟨t.toArray⟩ : ByteArray).size = t.length := by simp [ByteArray.size]
  have hd := Lib.splitB_data ⟨#[10]⟩ 0 (Lib.countB ⟨t.toArray⟩ ⟨#[10]⟩) ⟨t.toArray⟩
  have hc : Lib.countB ⟨t.toArray⟩ ⟨#[10]⟩ = Lib.count t [10] := by simp [Lib.countB]
  have e1 : (Lib.splitB ⟨#[10]⟩ 0 (Lib.countB ⟨t.toArray⟩ ⟨#[10]⟩) ⟨t.toArray⟩).map (·.data.toList) = cutsAt 10 t := by
    rw [hd, hc, cuts_pcl]; exact splitK_pcl t
  have e2 : (Lib.splitB ⟨#[10]⟩ 0 (Lib.countB ⟨t.toArray⟩ ⟨#[10]⟩) ⟨t.toArray⟩).map Value.string = (cutsAt 10 t).map fun x => Value.string ⟨x.toArray⟩ := by
    rw [← e1, List.map_map]; apply List.map_congr_left; intro x _; simp
  have e3 : Lib.countB ⟨t.toArray⟩ ⟨#[10]⟩ + 1 = (cutsAt 10 t).length := by
    rw [← Lib.splitB_all ⟨#[10]⟩ (by decide) 0 _ ⟨t.toArray⟩ rfl, ← e1, List.length_map]
  have c := Any.strings_Split { laysSplit with } laysSplit.i9 ⟨t.toArray⟩ ⟨#[10]⟩ m w (by rw [hs]; omega) hM (by decide)
  rw [e2, e3] at c
  exact c
theorem linA_cell (x : List UInt8) (i : Nat) (hi : i < (cutsAt 10 x).length) (w : World) : (w.alloc (.cells (linA x) 9)).cell? ⟨w.heap.size, i, none⟩ = some (.string ⟨(cutsAt 10 x)[i].toArray⟩) := by
  have h : (linA x)[i]? = some (.string ⟨(cutsAt 10 x)[i].toArray⟩) := by
    unfold linA
    rw [List.getElem?_toArray, List.getElem?_map, List.getElem?_eq_getElem hi]; rfl
  simp [go_sem, h]
theorem cuts_nl (y : List UInt8) : cutsAt 10 (y ++ [10]) = cutsAt 10 y ++ [[]] := by rw [cutsAt_snoc, cutStepAt_nl]
/-- a text that ends otherwise is no ok steps' -/
theorem read_no_nl {x : List UInt8} (h : ∀ y, x ≠ y ++ [10]) : ReadCode x [] false := by
  refine .inr ⟨rfl, rfl, fun D hD e => ?_⟩
  have hd := (codeB_well hD).1.1
  obtain ⟨A, z, rfl⟩ : ∃ A z, D = A ++ [z] := ⟨_, _, (List.dropLast_concat_getLast (by intro h; rw [h] at hd; simp at hd)).symm⟩
  refine h (linesOf A ++ z.txt) ?_
  rw [e]; simp [linesOf]
theorem ex_last (y : List UInt8) (c : UInt8) : (ByteArray.mk (y ++ [c]).toArray).extract y.length (y.length + 1) = ⟨[c].toArray⟩ := by
  apply ByteArray.ext
  rw [ByteArray.data_extract]
  apply Array.ext'
  simp
theorem ex_init (y : List UInt8) (c : UInt8) : (ByteArray.mk (y ++ [c]).toArray).extract 0 y.length = ⟨y.toArray⟩ := by
  apply ByteArray.ext
  rw [ByteArray.data_extract]
  apply Array.ext'
  simp
set_option maxHeartbeats 1000000 in
theorem hasSuffix_snoc (y : List UInt8) (c : UInt8) (w : World) (hl : y.length ≤ 1048576) :
    Calls Tryz.prog 116 #[.string ⟨(y ++ [c]).toArray⟩, .string ⟨#[10]⟩] w fun e w' => e = .returned (.bool (c == 10)) ∧ w' = w := by
  have hz : (⟨(y ++ [c]).toArray⟩ : ByteArray).size = y.length + 1 := by simp [ByteArray.size]
  go_enter Tryz.func116, Tryz.ntmps116
  go_wp2_with fail
  go_ret
  refine ⟨?_, rfl⟩
  rw [ex_last]
  have e : (ByteArray.mk [c].toArray).toList = [c] := by simp [ByteArray.toList_eq]
  rw [e]
  cases h : (c == 10) <;> simp_all
set_option maxHeartbeats 1000000 in
theorem hasSuffix_nil (w : World) :
    Calls Tryz.prog 116 #[.string ⟨#[]⟩, .string ⟨#[10]⟩] w fun e w' => e = .returned (.bool false) ∧ w' = w := by
  go_enter Tryz.func116, Tryz.ntmps116
  go_wp2_with fail
  go_ret
  exact ⟨rfl, rfl⟩
set_option maxHeartbeats 1000000 in
theorem lcut_no (x : List UInt8) (w : World) (H : Hid (∀ W, Calls Tryz.prog 116 #[.string ⟨x.toArray⟩, .string ⟨#[10]⟩] W fun e w' => e = .returned (.bool false) ∧ w' = W)) :
    Calls Tryz.prog 94 #[.string ⟨x.toArray⟩, .string ⟨#[10]⟩] w fun e w' => e = .returned (.tuple #[.string ⟨x.toArray⟩, .bool false]) ∧ w' = w := by
  go_enter Tryz.func94, Tryz.ntmps94
  go_wp2_with fail
  refine (H.out _).mono ?_
  rintro e w1 ⟨rfl, rfl⟩
  go_wp2_with fail
  go_ret2
  exact ⟨rfl, rfl⟩
set_option maxHeartbeats 1000000 in
theorem lcut_yes (y : List UInt8) (w : World) (hl : y.length ≤ 1048576) :
    Calls Tryz.prog 94 #[.string ⟨(y ++ [10]).toArray⟩, .string ⟨#[10]⟩] w fun e w' => e = .returned (.tuple #[.string ⟨y.toArray⟩, .bool true]) ∧ w' = w := by
  have hz : (⟨(y ++ [10]).toArray⟩ : ByteArray).size = y.length + 1 := by simp [ByteArray.size]
  have H : Hid (∀ W, Calls Tryz.prog 116 #[.string ⟨(y ++ [10]).toArray⟩, .string ⟨#[10]⟩] W fun e w' => e = .returned (.bool true) ∧ w' = W) := fun W => hasSuffix_snoc y 10 W hl
  have i1 : (0 : Int) ≤ (y.length : Int) := by omega
  go_enter Tryz.func94, Tryz.ntmps94
  go_wp2_with fail
  refine (H.out _).mono ?_
  rintro e w1 ⟨rfl, rfl⟩
  go_wp2_with fail
  go_ret2
  exact ⟨by rw [ex_init]; rfl, rfl⟩
set_option maxHeartbeats 1000000 in
theorem cutSuffix_yes (y : List UInt8) (w : World) (hl : y.length ≤ 1048576) :
    Calls Tryz.prog 52 #[.string ⟨(y ++ [10]).toArray⟩, .string ⟨#[10]⟩] w fun e w' => e = .returned (.tuple #[.string ⟨y.toArray⟩, .bool true]) ∧ w' = w := by
  have H := (show Hid _ from fun W => lcut_yes y W hl)
  go_enter Tryz.func52, Tryz.ntmps52
  go_wp2_with fail
  refine (H.out _).mono ?_
  rintro e w1 ⟨rfl, rfl⟩
  go_wp2_with fail
  go_ret2
  exact ⟨rfl, rfl⟩
set_option maxHeartbeats 1000000 in
theorem cutSuffix_no (x : List UInt8) (w : World) (hl : x.length ≤ 1048576) (h : ∀ y, x ≠ y ++ [10]) :
    Calls Tryz.prog 52 #[.string ⟨x.toArray⟩, .string ⟨#[10]⟩] w fun e w' => e = .returned (.tuple #[.string ⟨x.toArray⟩, .bool false]) ∧ w' = w := by
  have K : ∀ W, Calls Tryz.prog 116 #[.string ⟨x.toArray⟩, .string ⟨#[10]⟩] W fun e w' => e = .returned (.bool false) ∧ w' = W := by
    intro W
    rcases List.eq_nil_or_concat x with rfl | ⟨y, c, rfl⟩
    · exact hasSuffix_nil W
    · have e : (c == 10) = false := by rw [beq_eq_false_iff_ne]; intro e; exact h y (by rw [e]; simp)
      have k := hasSuffix_snoc y c W (by simp at hl; omega)
      rw [e] at k
      simpa using k
  have H := (show Hid _ from fun W => lcut_no x W K)
  clear K h
  go_enter Tryz.func52, Tryz.ntmps52
  go_wp2_with fail
  refine (H.out _).mono ?_
  rintro e w1 ⟨rfl, rfl⟩
  go_wp2_with fail
  go_ret2
  exact ⟨rfl, rfl⟩
end Go.Proofs.YtekmjgkjpdhedaaGreatDoor
namespace Go.Proofs.YtekmjgkjpdhedaaGreatDoor
open Go.ChangeShapes Go.WideShapes Go.ChangeAt Go.RowKit Go.Joins
/-- what stepsOf answers -/
def StepsIs (x : List UInt8) (w : World) (e : Ending) (w' : World) : Prop :=
  ((∃ C v, ReadCode x C true ∧ e = .returned (.tuple #[v, .nilIface]) ∧ OwnsO w' w.heap.size v C) ∨ (∃ s, ReadCode x [] false ∧ e = .returned (.tuple #[.slice none 0 0, .iface 50 (.agg #[.string s])]))) ∧ Below w.heap.size w w'
set_option maxRecDepth 100000 in
set_option maxHeartbeats 8000000 in
theorem stepsOf_lines (y : List UInt8) (w : World) (hx : y.length + 1 ≤ 400) (hT : Tab w) (hE : Errs w) (hM : Max w) :
    Calls Tryz.prog 28 #[.string ⟨(y ++ [10]).toArray⟩] w fun e w' => StepsIs (y ++ [10]) w e w' := by
  have g1 : ¬ (400 : Int) < ((y ++ [10]).length : Int) := by simp; omega
  have hcs : Hid (∀ W, Calls Tryz.prog 52 #[.string ⟨(y ++ [10]).toArray⟩, .string ⟨#[10]⟩] W fun e w' => e = .returned (.tuple #[.string ⟨y.toArray⟩, .bool true]) ∧ w' = W) := fun W => cutSuffix_yes y W (by omega)
  have hcl := cutsAt_len 10 y
  have hne := cutsAt_some 10 y
  have hnl : Hid (cutsAt 10 (y ++ [10]) = cutsAt 10 y ++ [[]]) := cuts_nl y
  obtain ⟨n, hn⟩ : ∃ n, n = (cutsAt 10 y).length := ⟨_, rfl⟩
  have hsp : Hid (∀ W, Max W → Calls Tryz.prog 53 #[.string ⟨y.toArray⟩, .string ⟨#[10]⟩] W fun e w' => e = .returned (.slice (some ⟨W.heap.size, 0, none⟩) n n) ∧ w' = W.alloc (.cells (linA y) 9)) := fun W hM => by rw [hn]; exact split10_any y (by omega) W hM
  have hlc : Hid (∀ (W : World) i (hi : i < (cutsAt 10 y).length), (W.alloc (.cells (linA y) 9)).cell? ⟨W.heap.size, i, none⟩ = some (.string ⟨(cutsAt 10 y)[i].toArray⟩)) := fun W i hi => linA_cell y i hi W
  generalize hPe : cutsAt 10 y = P at *
  replace hPe : Hid (cutsAt 10 y = P) := hPe
  generalize hxe : y ++ [10] = x at *
  replace hxe : Hid (y ++ [10] = x) := hxe
  have hnb : n ≤ 400 := by omega
  have hn0 : 1 ≤ n := by have := List.length_pos_iff.2 hne; omega
  replace hn : Hid (n = P.length) := hn
  go_enter Tryz.func28, Tryz.ntmps28
  go_wp2_with fail
  refine (hcs.out _).mono ?_
  rintro e w0 ⟨rfl, rfl⟩
  go_wp2_with fail
  refine (hsp.out _ hM).mono ?_
  rintro e w1 ⟨rfl, hw1⟩
  have hc : Hid (∀ i (hi : i < P.length), w1.cell? ⟨w0.heap.size, i, none⟩ = some (.string ⟨P[i].toArray⟩)) := fun i hi => by rw [hw1]; exact hlc.out w0 i hi
  have hb1 : Below w0.heap.size w0 w1 := by rw [hw1]; exact (Below.refl _ _).alloc (Nat.le_refl _) _
  have hz1 : w0.heap.size < w1.heap.size := by rw [hw1]; simp
  have hT1 := hT.below hb1
  have hE1 := hE.below hb1
  have hM1 := hM.below hb1
  clear hw1 hlc hsp hcs hT hE hM
  obtain ⟨inf, i1, i2, i3, i4⟩ := infoO
  go_wp2_with fail
  go_loopw [6, 28] (fun v i wr => ∃ (k : Nat) (O : List OpV), k ≤ n ∧ i = .int .i64 k ∧ LinesTo x k O ∧ OwnsO wr w1.heap.size v O ∧ Below w1.heap.size w1 wr) (fun _ i _ => n - (intOf i).toNat)
  case atStart => exact ⟨0, [], Nat.zero_le _, rfl, LinesTo.zero x, ownsO_nil _ _, Below.refl _ _⟩
  case round =>
    obtain ⟨k, O, hk, rfl, hL, hO, hB⟩ := hrel
    have hzr := hB.size
    have hOl := hL.1
    by_cases hlt : k < n
    · have g3 : (k : Int) < (n : Int) := by omega
      have hkp : k < P.length := by have := hn.out; omega
      have ck : wr.cell? ⟨w0.heap.size, k, none⟩ = some (.string ⟨P[k].toArray⟩) := (hB.cell (p := ⟨w0.heap.size, k, none⟩) hz1).trans (hc.out k hkp)
      have hPk : Hid ((cutsAt 10 x)[k]? = some P[k]) := by show _ = _; rw [hnl.out, List.getElem?_append_left hkp, List.getElem?_eq_getElem hkp]
      have hPl : Hid (k + 1 < (cutsAt 10 x).length) := by show _ < _; rw [hnl.out, List.length_append, List.length_singleton]; omega
      have hL' : Hid (LinesTo x k O) := hL
      generalize P[k] = q at *
      clear hL
      obtain ⟨k', r, s, t, a, b, ok, hR, Cq⟩ := implOpRead_any q
      have hCq : Hid _ := Cq
      clear Cq
      have hTr := hT1.below hB
      have hEr := hE1.below hB
      have hMr := hM1.below hB
      go_wp2_with fail
      refine (hCq.out _ hTr hEr hMr).mono ?_
      rintro e w2 ⟨rfl, hb2⟩
      have hz2 := hb2.size
      have hB2 : Below w1.heap.size w1 w2 := hB.trans (hb2.mono hzr)
      have hO2 := OwnsO.below hO hb2
      clear hCq hTr hEr hMr ck
      rcases hR with ⟨rfl, hok, hqe⟩ | ⟨rfl, ⟨rfl, rfl, rfl, rfl, rfl, rfl⟩, hno⟩
      · have hL2 : Hid (LinesTo x (k + 1) (O ++ [⟨k', r, s, t, a, b⟩])) := hL'.out.next (o := ⟨k', r, s, t, a, b⟩) hok (by rw [hPk.out, hqe]; rfl)
        clear hqe hL' hPk hPl hO
        have hOb : O.length ≤ 1048576 := by omega
        clear hOl
        go_wp2_with (refine wpList_append_own _ rfl (.tmp 41) (.tmp 43) 23 rfl w1.heap.size 43 inf (.agg #[.int .i64 0, .int .i64 0, .int .i64 0, .int .i64 0, .int .i64 0, .int .i64 0]) 6 48 Tryz.underlying23 i1 i2 i3 i4 rfl (by decide) _ _ _ rfl (World.ownsRow.alloc (World.ownsRow.alloc hO2 _) _) ⟨w2.heap.size + 1, 0, none⟩ 1 1 (OpV.cells ⟨k', r, s, t, a, b⟩) rfl rfl (by intro q u hq; rcases (by have := (List.getElem?_eq_some_iff.1 hq).1; simp [OpV.cells] at this; omega : q = 0 ∨ q = 1 ∨ q = 2 ∨ q = 3 ∨ q = 4 ∨ q = 5) with rfl | rfl | rfl | rfl | rfl | rfl <;> (simp [OpV.cells] at hq; subst hq; simp [Addr.add, go_sem])) (by simp [OpV.cells, Value.oneCell']) (by unfold maxLen; omega) (by omega) (by simp <;> omega) ?_; intro x0 w4 ho0 hg0 _)
        have hB4 : Below w1.heap.size w1 w4 := ((hB2.alloc (by omega) _).alloc (by simp; omega) _).grown hg0 (by simp; omega) (by intro k hk; have := (World.ownsRow.lt hO2 k hk).1; omega)
        go_roundw
        case rel => exact ⟨k + 1, _, by omega, by go_num, hL2.out, by unfold OwnsO; rw [cellsO_snoc]; simpa using ho0, hB4⟩
        case measure => simp [intOf]; omega
      · have hr : Hid (ReadCode x [] false) := read_no_line hPl.out hPk.out hno
        clear hno hL' hPk hPl
        go_wp2_with fail
        all_goals
          go_ret2
          exact ⟨.inr ⟨_, hr.out, rfl⟩, (hb1.trans (hB2.mono (by omega))).alloc (by omega) _⟩
    · have e : k = n := by omega
      subst e
      have hall := read_all (O := O) (by rw [hOl]; exact hL) (by rw [hnl.out, hOl, List.length_append, List.length_singleton, hn.out]) (by rw [hnl.out]; simp)
      obtain ⟨ao, cp, rfl, hC, _⟩ := hO.code
      have hOs : O.length ≤ 1048576 := by omega
      clear hOl
      go_wp2_with fail
      refine (implCodeOk_any O ao cp _ hOs hC).mono ?_
      rintro e w2 ⟨rfl, hb2⟩
      have hB2 : Below w0.heap.size w0 w2 := hb1.trans ((hB.trans (hb2.mono hzr)).mono (by omega))
      have hO2 := OwnsO.below hO hb2
      cases hcb : codeB O with
      | true =>
        have hr : Hid (ReadCode x O true) := hall.1 hcb
        clear hall
        go_wp2_with fail
        go_ret2
        exact ⟨.inl ⟨O, _, hr.out, rfl, OwnsO.mono hO2 (by omega)⟩, hB2⟩
      | false =>
        have hr : Hid (ReadCode x [] false) := hall.2 hcb
        clear hall
        go_wp2_with fail
        go_ret2
        exact ⟨.inr ⟨_, hr.out, rfl⟩, hB2⟩
set_option maxRecDepth 20000 in
set_option maxHeartbeats 2000000 in
theorem stepsOf_any (x : List UInt8) (w : World) (hT : Tab w) (hE : Errs w) (hM : Max w) :
    Calls Tryz.prog 28 #[.string ⟨x.toArray⟩] w fun e w' => StepsIs x w e w' := by
  by_cases h400 : 400 < x.length
  · have g1 : (400 : Int) < (x.length : Int) := by omega
    have hr : Hid (ReadCode x [] false) := read_long h400
    go_enter Tryz.func28, Tryz.ntmps28
    go_wp2_with fail
    go_ret2
    exact ⟨.inr ⟨_, hr.out, rfl⟩, Below.refl _ _⟩
  by_cases hy : ∃ y, x = y ++ [10]
  · obtain ⟨y, rfl⟩ := hy
    exact stepsOf_lines y w (by simp at h400; omega) hT hE hM
  · have hy' : ∀ y, x ≠ y ++ [10] := fun y e => hy ⟨y, e⟩
    have g1 : ¬ (400 : Int) < (x.length : Int) := by omega
    have hr : Hid (ReadCode x [] false) := read_no_nl hy'
    have hcs : Hid (∀ W, Calls Tryz.prog 52 #[.string ⟨x.toArray⟩, .string ⟨#[10]⟩] W fun e w' => e = .returned (.tuple #[.string ⟨x.toArray⟩, .bool false]) ∧ w' = W) := fun W => cutSuffix_no x W (by omega) hy'
    clear hy hy'
    go_enter Tryz.func28, Tryz.ntmps28
    go_wp2_with fail
    refine (hcs.out _).mono ?_
    rintro e w1 ⟨rfl, rfl⟩
    go_wp2_with fail
    go_ret2
    exact ⟨.inr ⟨_, hr.out, rfl⟩, Below.refl _ _⟩
end Go.Proofs.YtekmjgkjpdhedaaGreatDoor
namespace Go.Proofs.YtekmjgkjpdhedaaGreatDoor
open Go.ChangeShapes Go.WideShapes Go.ChangeAt Go.RowKit Go.Joins
/-- the library's variable holds the type of errors -/
def EType (w : World) : Prop := w.cell? ⟨0, 0, none⟩ = some (.iface 120 (.agg #[.pointer (some ⟨9, 46, none⟩)]))
theorem EType.below {w w' : World} (h : EType w) (hb : Below w.heap.size w w') : EType w' :=
  (hb.cell (p := ⟨0, 0, none⟩) (World.block_lt_of_cell? _ _ h)).trans h
set_option maxRecDepth 20000 in
set_option maxHeartbeats 2000000 in
theorem implCodeRead_any (x : List UInt8) (w : World) (hT : Tab w) (hE : Errs w) (hM : Max w) (hG : EType w) :
    Calls Tryz.prog 10 #[.string ⟨x.toArray⟩] w fun e w' => ∃ C v ok, e = .returned (.tuple #[v, .bool ok]) ∧ ReadCode x C ok ∧ OwnsO w' w.heap.size v C ∧ Below w.heap.size w w' := by
  go_enter Tryz.func10, Tryz.ntmps10
  go_wp2_with fail
  refine (stepsOf_any x _ hT hE hM).mono ?_
  rintro e w1 ⟨h, hb1⟩
  have hz1 := hb1.size
  rcases h with ⟨C, v, hr, rfl, hO⟩ | ⟨s, hr, rfl⟩
  · replace hr : Hid (ReadCode x C true) := hr
    go_wp2_with fail
    refine (ErrAs.as_nil _ _).mono ?_
    rintro e w2 ⟨rfl, rfl⟩
    go_wp2_with fail
    go_ret2
    exact ⟨C, v, true, rfl, hr.out, OwnsO.below hO ((Below.refl _ _).alloc (Nat.le_refl _) _), hb1.alloc hz1 _⟩
  · replace hr : Hid (ReadCode x [] false) := hr
    have hG1 : EType (w1.alloc (.cells #[.string ⟨#[]⟩] 50)) := (hG.below hb1).below ((Below.refl _ _).alloc (Nat.le_refl _) _)
    go_wp2_with fail
    refine (ErrAs.as_hit s ⟨w1.heap.size, 0, none⟩ (.string ⟨#[]⟩) _ hG1 (by simp) (by simp)).mono ?_
    rintro e w2 ⟨rfl, hw2⟩
    have hb2 : Below w.heap.size w w2 := by
      rw [hw2]
      exact (((((hb1.alloc hz1 _).alloc (by simp; omega) _).alloc (by simp; omega) _).alloc (by simp; omega) _).alloc (by simp; omega) _).setCell hz1 _
    clear hw2
    go_wp2_with fail
    go_ret2
    exact ⟨[], _, false, rfl, hr.out, ownsO_nil _ _, hb2⟩
theorem ReadCode.one {x : List UInt8} {C D : List OpV} {ok ok' : Bool} (h : ReadCode x C ok) (h' : ReadCode x D ok') : D = C ∧ ok' = ok := by
  rcases h' with ⟨e', o', t'⟩ | ⟨e', o', n'⟩
  · obtain ⟨a, b⟩ := h.of_code o' t'
    exact ⟨b.symm, e'.trans a.symm⟩
  · rcases h with ⟨e, o, t⟩ | ⟨e, o, n⟩
    · exact absurd t (n' _ o)
    · exact ⟨o'.trans o.symm, e'.trans e.symm⟩
end Go.Proofs.YtekmjgkjpdhedaaGreatDoor
