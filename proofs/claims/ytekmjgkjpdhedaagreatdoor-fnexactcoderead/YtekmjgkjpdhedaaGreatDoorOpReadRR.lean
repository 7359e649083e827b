/-
  What the words behind the first are by a kind's parts (RR); what is to be said of impl's readParts by a kind's row (RowC).
-/
import Derived.Test.YtekmjgkjpdhedaaGreatDoorOpReadB
import Derived.Test.YtekmjgkjpdhedaaGreatDoorOpPieces
namespace Go.Proofs.YtekmjgkjpdhedaaGreatDoor
open Go.ChangeShapes Go.WideShapes Go.ChangeAt Go.RowKit Go.Joins
/-- words are those of a step's parts -/
structure Segs (k : Int) (ws : List (List UInt8)) (r s t a b : Int) : Prop where
  eq : ws = seg (fR k) (Lib.itoa r) ++ (seg (fS k) (Lib.itoa s) ++ (seg (fT k) (Lib.itoa t) ++ seg (fV k) (txt a b)))
  r1 : -99 ≤ r
  r2 : r ≤ 99
  s1 : -99 ≤ s
  s2 : s ≤ 99
  t1 : -99 ≤ t
  t2 : t ≤ 99
  v : okB a b = true
  zr : fR k = false → r = 0
  zs : fS k = false → s = 0
  zt : fT k = false → t = 0
  zv : fV k = false → a = 0 ∧ b = 0
/-- what a kind's parts make of the words behind the first -/
def RR (k : Int) (ws : List (List UInt8)) (r s t a b : Int) (ok : Bool) : Prop :=
  (ok = true ∧ ws = seg (fR k) (Lib.itoa r) ++ (seg (fS k) (Lib.itoa s) ++ (seg (fT k) (Lib.itoa t) ++ seg (fV k) (txt a b))) ∧ ∀ r' s' t' a' b', Segs k ws r' s' t' a' b' → r' = r ∧ s' = s ∧ t' = t ∧ a' = a ∧ b' = b) ∨
  (ok = false ∧ ∀ r' s' t' a' b', ¬ Segs k ws r' s' t' a' b')
/-- readParts by a kind's row and the words behind the first -/
def RowC (k : Int) (ws : List (List UInt8)) (r s t a b : Int) (ok : Bool) : Prop :=
  ∀ (x y z B : Nat) (ao : Option Addr) (w : World), (0 < ws.length → ao = some ⟨B, 1, none⟩) → Tab w → Errs w → B < w.heap.size → (∀ i, i < ws.length → w.cell? ⟨B, i + 1, none⟩ = some (.string ⟨(ws.getD i []).toArray⟩)) →
    Calls Tryz.prog 97 #[rowV k.toNat x y z, .agg #[.int .i64 k, .int .i64 0, .int .i64 0, .int .i64 0, .int .i64 0, .int .i64 0], .slice ao ws.length ws.length] w fun e w' =>
      (∃ c0 c1 c2 c3 c4 c5 : Int, e = .returned (.tuple #[.agg #[.int .i64 c0, .int .i64 c1, .int .i64 c2, .int .i64 c3, .int .i64 c4, .int .i64 c5], .bool ok]) ∧ (ok = true → c0 = k ∧ c1 = r ∧ c2 = s ∧ c3 = t ∧ c4 = a ∧ c5 = b)) ∧ Below w.heap.size w w'
theorem getD_len {ws : List (List UInt8)} (h : ∀ x ∈ ws, x.length ≤ 1048576) (i : Nat) : (ws.getD i []).length ≤ 1048576 := by
  rw [List.getD_eq_getElem?_getD]
  cases hi : ws[i]? with
  | none => simp
  | some x => exact h x (List.mem_of_getElem? hi)
theorem rr_1001 {k : Int} {ws : List (List UInt8)} {n0 n3 n4 : Int} {q0 q1 : Bool} (hR : fR k = true) (hS : fS k = false) (hT : fT k = false) (hV : fV k = true) (d0 : DR (ws.getD 0 []) n0 q0) (d1 : VR (ws.getD 1 []) n3 n4 q1) :
    RR k ws n0 0 0 n3 n4 (decide (ws.length = 2) && q0 && q1) := by
  by_cases hl : ws.length = 2
  · obtain ⟨x0, x1, rfl⟩ : ∃ x0 x1, ws = [x0, x1] := by
      match ws, hl with
      | [x0, x1], _ => exact ⟨x0, x1, rfl⟩
    have se : ∀ r' s' t' a' b', Segs k [x0, x1] r' s' t' a' b' → x0 = Lib.itoa r' ∧ x1 = txt a' b' := fun r' s' t' a' b' S => by
      have e := S.eq
      rw [hR, hS, hT, hV] at e
      simpa [seg] using e
    simp only [List.getD_cons_zero, List.getD_cons_succ] at d0 d1
    rcases d0 with ⟨rfl, e0, u0⟩ | ⟨rfl, rfl, u0⟩
    · rcases d1 with ⟨rfl, k1, t1⟩ | ⟨rfl, rfl, rfl, u1⟩
      · refine .inl ⟨by simp, by rw [hR, hS, hT, hV]; simp [seg, e0, ← t1], fun r' s' t' a' b' S => ?_⟩
        obtain ⟨g0, g1⟩ := se _ _ _ _ _ S
        have ev := txt_inj S.v k1 (g1.symm.trans t1)
        exact ⟨(u0 _ S.r1 S.r2 g0).symm, S.zs hS, S.zt hT, ev.1, ev.2⟩
      · exact .inr ⟨by simp, fun r' s' t' a' b' S => absurd (se _ _ _ _ _ S).2 (u1 _ _ S.v)⟩
    · exact .inr ⟨by simp, fun r' s' t' a' b' S => absurd (se _ _ _ _ _ S).1 (u0 _ S.r1 S.r2)⟩
  · refine .inr ⟨by simp [hl], fun r' s' t' a' b' S => hl ?_⟩
    rw [S.eq, hR, hS, hT, hV]
    simp [seg]
theorem rr_1100 {k : Int} {ws : List (List UInt8)} {n0 n1 : Int} {q0 q1 : Bool} (hR : fR k = true) (hS : fS k = true) (hT : fT k = false) (hV : fV k = false) (d0 : DR (ws.getD 0 []) n0 q0) (d1 : DR (ws.getD 1 []) n1 q1) :
    RR k ws n0 n1 0 0 0 (decide (ws.length = 2) && q0 && q1) := by
  by_cases hl : ws.length = 2
  · obtain ⟨x0, x1, rfl⟩ : ∃ x0 x1, ws = [x0, x1] := by
      match ws, hl with
      | [x0, x1], _ => exact ⟨x0, x1, rfl⟩
    have se : ∀ r' s' t' a' b', Segs k [x0, x1] r' s' t' a' b' → x0 = Lib.itoa r' ∧ x1 = Lib.itoa s' := fun r' s' t' a' b' S => by
      have e := S.eq
      rw [hR, hS, hT, hV] at e
      simpa [seg] using e
    simp only [List.getD_cons_zero, List.getD_cons_succ] at d0 d1
    rcases d0 with ⟨rfl, e0, u0⟩ | ⟨rfl, rfl, u0⟩
    · rcases d1 with ⟨rfl, e1, u1⟩ | ⟨rfl, rfl, u1⟩
      · refine .inl ⟨by simp, by rw [hR, hS, hT, hV]; simp [seg, e0, e1], fun r' s' t' a' b' S => ?_⟩
        obtain ⟨g0, g1⟩ := se _ _ _ _ _ S
        exact ⟨(u0 _ S.r1 S.r2 g0).symm, (u1 _ S.s1 S.s2 g1).symm, S.zt hT, (S.zv hV).1, (S.zv hV).2⟩
      · exact .inr ⟨by simp, fun r' s' t' a' b' S => absurd (se _ _ _ _ _ S).2 (u1 _ S.s1 S.s2)⟩
    · exact .inr ⟨by simp, fun r' s' t' a' b' S => absurd (se _ _ _ _ _ S).1 (u0 _ S.r1 S.r2)⟩
  · refine .inr ⟨by simp [hl], fun r' s' t' a' b' S => hl ?_⟩
    rw [S.eq, hR, hS, hT, hV]
    simp [seg]
theorem rr_1000 {k : Int} {ws : List (List UInt8)} {n0 : Int} {q0 : Bool} (hR : fR k = true) (hS : fS k = false) (hT : fT k = false) (hV : fV k = false) (d0 : DR (ws.getD 0 []) n0 q0) :
    RR k ws n0 0 0 0 0 (decide (ws.length = 1) && q0) := by
  by_cases hl : ws.length = 1
  · obtain ⟨x0, rfl⟩ : ∃ x0, ws = [x0] := by
      match ws, hl with
      | [x0], _ => exact ⟨x0, rfl⟩
    have se : ∀ r' s' t' a' b', Segs k [x0] r' s' t' a' b' → x0 = Lib.itoa r' := fun r' s' t' a' b' S => by
      have e := S.eq
      rw [hR, hS, hT, hV] at e
      simpa [seg] using e
    simp only [List.getD_cons_zero] at d0
    rcases d0 with ⟨rfl, e0, u0⟩ | ⟨rfl, rfl, u0⟩
    · refine .inl ⟨by simp, by rw [hR, hS, hT, hV]; simp [seg, e0], fun r' s' t' a' b' S => ?_⟩
      have g0 := se _ _ _ _ _ S
      exact ⟨(u0 _ S.r1 S.r2 g0).symm, S.zs hS, S.zt hT, (S.zv hV).1, (S.zv hV).2⟩
    · exact .inr ⟨by simp, fun r' s' t' a' b' S => absurd (se _ _ _ _ _ S) (u0 _ S.r1 S.r2)⟩
  · refine .inr ⟨by simp [hl], fun r' s' t' a' b' S => hl ?_⟩
    rw [S.eq, hR, hS, hT, hV]
    simp [seg]
theorem rr_1010 {k : Int} {ws : List (List UInt8)} {n0 n2 : Int} {q0 q1 : Bool} (hR : fR k = true) (hS : fS k = false) (hT : fT k = true) (hV : fV k = false) (d0 : DR (ws.getD 0 []) n0 q0) (d1 : DR (ws.getD 1 []) n2 q1) :
    RR k ws n0 0 n2 0 0 (decide (ws.length = 2) && q0 && q1) := by
  by_cases hl : ws.length = 2
  · obtain ⟨x0, x1, rfl⟩ : ∃ x0 x1, ws = [x0, x1] := by
      match ws, hl with
      | [x0, x1], _ => exact ⟨x0, x1, rfl⟩
    have se : ∀ r' s' t' a' b', Segs k [x0, x1] r' s' t' a' b' → x0 = Lib.itoa r' ∧ x1 = Lib.itoa t' := fun r' s' t' a' b' S => by
      have e := S.eq
      rw [hR, hS, hT, hV] at e
      simpa [seg] using e
    simp only [List.getD_cons_zero, List.getD_cons_succ] at d0 d1
    rcases d0 with ⟨rfl, e0, u0⟩ | ⟨rfl, rfl, u0⟩
    · rcases d1 with ⟨rfl, e1, u1⟩ | ⟨rfl, rfl, u1⟩
      · refine .inl ⟨by simp, by rw [hR, hS, hT, hV]; simp [seg, e0, e1], fun r' s' t' a' b' S => ?_⟩
        obtain ⟨g0, g1⟩ := se _ _ _ _ _ S
        exact ⟨(u0 _ S.r1 S.r2 g0).symm, S.zs hS, (u1 _ S.t1 S.t2 g1).symm, (S.zv hV).1, (S.zv hV).2⟩
      · exact .inr ⟨by simp, fun r' s' t' a' b' S => absurd (se _ _ _ _ _ S).2 (u1 _ S.t1 S.t2)⟩
    · exact .inr ⟨by simp, fun r' s' t' a' b' S => absurd (se _ _ _ _ _ S).1 (u0 _ S.r1 S.r2)⟩
  · refine .inr ⟨by simp [hl], fun r' s' t' a' b' S => hl ?_⟩
    rw [S.eq, hR, hS, hT, hV]
    simp [seg]
theorem rr_1111 {k : Int} {ws : List (List UInt8)} {n0 n1 n2 n3 n4 : Int} {q0 q1 q2 q3 : Bool} (hR : fR k = true) (hS : fS k = true) (hT : fT k = true) (hV : fV k = true) (d0 : DR (ws.getD 0 []) n0 q0) (d1 : DR (ws.getD 1 []) n1 q1) (d2 : DR (ws.getD 2 []) n2 q2) (d3 : VR (ws.getD 3 []) n3 n4 q3) :
    RR k ws n0 n1 n2 n3 n4 (decide (ws.length = 4) && q0 && q1 && q2 && q3) := by
  by_cases hl : ws.length = 4
  · obtain ⟨x0, x1, x2, x3, rfl⟩ : ∃ x0 x1 x2 x3, ws = [x0, x1, x2, x3] := by
      match ws, hl with
      | [x0, x1, x2, x3], _ => exact ⟨x0, x1, x2, x3, rfl⟩
    have se : ∀ r' s' t' a' b', Segs k [x0, x1, x2, x3] r' s' t' a' b' → x0 = Lib.itoa r' ∧ x1 = Lib.itoa s' ∧ x2 = Lib.itoa t' ∧ x3 = txt a' b' := fun r' s' t' a' b' S => by
      have e := S.eq
      rw [hR, hS, hT, hV] at e
      simpa [seg] using e
    simp only [List.getD_cons_zero, List.getD_cons_succ] at d0 d1 d2 d3
    rcases d0 with ⟨rfl, e0, u0⟩ | ⟨rfl, rfl, u0⟩
    · rcases d1 with ⟨rfl, e1, u1⟩ | ⟨rfl, rfl, u1⟩
      · rcases d2 with ⟨rfl, e2, u2⟩ | ⟨rfl, rfl, u2⟩
        · rcases d3 with ⟨rfl, k3, t3⟩ | ⟨rfl, rfl, rfl, u3⟩
          · refine .inl ⟨by simp, by rw [hR, hS, hT, hV]; simp [seg, e0, e1, e2, ← t3], fun r' s' t' a' b' S => ?_⟩
            obtain ⟨g0, g1, g2, g3⟩ := se _ _ _ _ _ S
            have ev := txt_inj S.v k3 (g3.symm.trans t3)
            exact ⟨(u0 _ S.r1 S.r2 g0).symm, (u1 _ S.s1 S.s2 g1).symm, (u2 _ S.t1 S.t2 g2).symm, ev.1, ev.2⟩
          · exact .inr ⟨by simp, fun r' s' t' a' b' S => absurd (se _ _ _ _ _ S).2.2.2 (u3 _ _ S.v)⟩
        · exact .inr ⟨by simp, fun r' s' t' a' b' S => absurd (se _ _ _ _ _ S).2.2.1 (u2 _ S.t1 S.t2)⟩
      · exact .inr ⟨by simp, fun r' s' t' a' b' S => absurd (se _ _ _ _ _ S).2.1 (u1 _ S.s1 S.s2)⟩
    · exact .inr ⟨by simp, fun r' s' t' a' b' S => absurd (se _ _ _ _ _ S).1 (u0 _ S.r1 S.r2)⟩
  · refine .inr ⟨by simp [hl], fun r' s' t' a' b' S => hl ?_⟩
    rw [S.eq, hR, hS, hT, hV]
    simp [seg]
theorem rr_0010 {k : Int} {ws : List (List UInt8)} {n2 : Int} {q0 : Bool} (hR : fR k = false) (hS : fS k = false) (hT : fT k = true) (hV : fV k = false) (d0 : DR (ws.getD 0 []) n2 q0) :
    RR k ws 0 0 n2 0 0 (decide (ws.length = 1) && q0) := by
  by_cases hl : ws.length = 1
  · obtain ⟨x0, rfl⟩ : ∃ x0, ws = [x0] := by
      match ws, hl with
      | [x0], _ => exact ⟨x0, rfl⟩
    have se : ∀ r' s' t' a' b', Segs k [x0] r' s' t' a' b' → x0 = Lib.itoa t' := fun r' s' t' a' b' S => by
      have e := S.eq
      rw [hR, hS, hT, hV] at e
      simpa [seg] using e
    simp only [List.getD_cons_zero] at d0
    rcases d0 with ⟨rfl, e0, u0⟩ | ⟨rfl, rfl, u0⟩
    · refine .inl ⟨by simp, by rw [hR, hS, hT, hV]; simp [seg, e0], fun r' s' t' a' b' S => ?_⟩
      have g0 := se _ _ _ _ _ S
      exact ⟨S.zr hR, S.zs hS, (u0 _ S.t1 S.t2 g0).symm, (S.zv hV).1, (S.zv hV).2⟩
    · exact .inr ⟨by simp, fun r' s' t' a' b' S => absurd (se _ _ _ _ _ S) (u0 _ S.t1 S.t2)⟩
  · refine .inr ⟨by simp [hl], fun r' s' t' a' b' S => hl ?_⟩
    rw [S.eq, hR, hS, hT, hV]
    simp [seg]
theorem rr_1011 {k : Int} {ws : List (List UInt8)} {n0 n2 n3 n4 : Int} {q0 q1 q2 : Bool} (hR : fR k = true) (hS : fS k = false) (hT : fT k = true) (hV : fV k = true) (d0 : DR (ws.getD 0 []) n0 q0) (d1 : DR (ws.getD 1 []) n2 q1) (d2 : VR (ws.getD 2 []) n3 n4 q2) :
    RR k ws n0 0 n2 n3 n4 (decide (ws.length = 3) && q0 && q1 && q2) := by
  by_cases hl : ws.length = 3
  · obtain ⟨x0, x1, x2, rfl⟩ : ∃ x0 x1 x2, ws = [x0, x1, x2] := by
      match ws, hl with
      | [x0, x1, x2], _ => exact ⟨x0, x1, x2, rfl⟩
    have se : ∀ r' s' t' a' b', Segs k [x0, x1, x2] r' s' t' a' b' → x0 = Lib.itoa r' ∧ x1 = Lib.itoa t' ∧ x2 = txt a' b' := fun r' s' t' a' b' S => by
      have e := S.eq
      rw [hR, hS, hT, hV] at e
      simpa [seg] using e
    simp only [List.getD_cons_zero, List.getD_cons_succ] at d0 d1 d2
    rcases d0 with ⟨rfl, e0, u0⟩ | ⟨rfl, rfl, u0⟩
    · rcases d1 with ⟨rfl, e1, u1⟩ | ⟨rfl, rfl, u1⟩
      · rcases d2 with ⟨rfl, k2, t2⟩ | ⟨rfl, rfl, rfl, u2⟩
        · refine .inl ⟨by simp, by rw [hR, hS, hT, hV]; simp [seg, e0, e1, ← t2], fun r' s' t' a' b' S => ?_⟩
          obtain ⟨g0, g1, g2⟩ := se _ _ _ _ _ S
          have ev := txt_inj S.v k2 (g2.symm.trans t2)
          exact ⟨(u0 _ S.r1 S.r2 g0).symm, S.zs hS, (u1 _ S.t1 S.t2 g1).symm, ev.1, ev.2⟩
        · exact .inr ⟨by simp, fun r' s' t' a' b' S => absurd (se _ _ _ _ _ S).2.2 (u2 _ _ S.v)⟩
      · exact .inr ⟨by simp, fun r' s' t' a' b' S => absurd (se _ _ _ _ _ S).2.1 (u1 _ S.t1 S.t2)⟩
    · exact .inr ⟨by simp, fun r' s' t' a' b' S => absurd (se _ _ _ _ _ S).1 (u0 _ S.r1 S.r2)⟩
  · refine .inr ⟨by simp [hl], fun r' s' t' a' b' S => hl ?_⟩
    rw [S.eq, hR, hS, hT, hV]
    simp [seg]
theorem rr_0001 {k : Int} {ws : List (List UInt8)} {n3 n4 : Int} {q0 : Bool} (hR : fR k = false) (hS : fS k = false) (hT : fT k = false) (hV : fV k = true) (d0 : VR (ws.getD 0 []) n3 n4 q0) :
    RR k ws 0 0 0 n3 n4 (decide (ws.length = 1) && q0) := by
  by_cases hl : ws.length = 1
  · obtain ⟨x0, rfl⟩ : ∃ x0, ws = [x0] := by
      match ws, hl with
      | [x0], _ => exact ⟨x0, rfl⟩
    have se : ∀ r' s' t' a' b', Segs k [x0] r' s' t' a' b' → x0 = txt a' b' := fun r' s' t' a' b' S => by
      have e := S.eq
      rw [hR, hS, hT, hV] at e
      simpa [seg] using e
    simp only [List.getD_cons_zero] at d0
    rcases d0 with ⟨rfl, k0, t0⟩ | ⟨rfl, rfl, rfl, u0⟩
    · refine .inl ⟨by simp, by rw [hR, hS, hT, hV]; simp [seg, ← t0], fun r' s' t' a' b' S => ?_⟩
      have g0 := se _ _ _ _ _ S
      have ev := txt_inj S.v k0 (g0.symm.trans t0)
      exact ⟨S.zr hR, S.zs hS, S.zt hT, ev.1, ev.2⟩
    · exact .inr ⟨by simp, fun r' s' t' a' b' S => absurd (se _ _ _ _ _ S) (u0 _ _ S.v)⟩
  · refine .inr ⟨by simp [hl], fun r' s' t' a' b' S => hl ?_⟩
    rw [S.eq, hR, hS, hT, hV]
    simp [seg]
/-- a row is fourteen cells -/
theorem row_shape (k : Int) (h1 : 1 ≤ k) (h2 : k ≤ 14) (x y z : Nat) : ∃ f0 f1 f2 f3 f4 f5 f6 f7 f8 f9 f10 f11 f12 f13 : Value, rowV k.toNat x y z = .agg #[f0, f1, f2, f3, f4, f5, f6, f7, f8, f9, f10, f11, f12, f13] ∧
    ∀ v ∈ [f0, f1, f2, f3, f4, f5, f6, f7, f8, f9, f10, f11, f12, f13], v.oneCell' = true := by
  rcases kinds14 (k := k) h1 h2 with rfl | rfl | rfl | rfl | rfl | rfl | rfl | rfl | rfl | rfl | rfl | rfl | rfl | rfl
  · exact ⟨_, _, _, _, _, _, _, _, _, _, _, _, _, _, row_1 x y z, by simp [Value.oneCell']⟩
  · exact ⟨_, _, _, _, _, _, _, _, _, _, _, _, _, _, row_2 x y z, by simp [Value.oneCell']⟩
  · exact ⟨_, _, _, _, _, _, _, _, _, _, _, _, _, _, row_3 x y z, by simp [Value.oneCell']⟩
  · exact ⟨_, _, _, _, _, _, _, _, _, _, _, _, _, _, row_4 x y z, by simp [Value.oneCell']⟩
  · exact ⟨_, _, _, _, _, _, _, _, _, _, _, _, _, _, row_5 x y z, by simp [Value.oneCell']⟩
  · exact ⟨_, _, _, _, _, _, _, _, _, _, _, _, _, _, row_6 x y z, by simp [Value.oneCell']⟩
  · exact ⟨_, _, _, _, _, _, _, _, _, _, _, _, _, _, row_7 x y z, by simp [Value.oneCell']⟩
  · exact ⟨_, _, _, _, _, _, _, _, _, _, _, _, _, _, row_8 x y z, by simp [Value.oneCell']⟩
  · exact ⟨_, _, _, _, _, _, _, _, _, _, _, _, _, _, row_9 x y z, by simp [Value.oneCell']⟩
  · exact ⟨_, _, _, _, _, _, _, _, _, _, _, _, _, _, row_10 x y z, by simp [Value.oneCell']⟩
  · exact ⟨_, _, _, _, _, _, _, _, _, _, _, _, _, _, row_11 x y z, by simp [Value.oneCell']⟩
  · exact ⟨_, _, _, _, _, _, _, _, _, _, _, _, _, _, row_12 x y z, by simp [Value.oneCell']⟩
  · exact ⟨_, _, _, _, _, _, _, _, _, _, _, _, _, _, row_13 x y z, by simp [Value.oneCell']⟩
  · exact ⟨_, _, _, _, _, _, _, _, _, _, _, _, _, _, row_14 x y z, by simp [Value.oneCell']⟩
end Go.Proofs.YtekmjgkjpdhedaaGreatDoor
