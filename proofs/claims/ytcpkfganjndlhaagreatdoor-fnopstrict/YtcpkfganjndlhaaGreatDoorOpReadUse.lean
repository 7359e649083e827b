/-
  What both readings of a step answer at a text of which it is known what it is, over this translation.
-/
import Derived.Test.YtcpkfganjndlhaaGreatDoorOpImplRead
namespace Go.Proofs.YtcpkfganjndlhaaGreatDoor
open Go.ChangeShapes Go.WideShapes Go.ChangeAt Go.RowKit Go.Joins
theorem ReadIs.one {x : List UInt8} {k r s t a b k' r' s' t' a' b' : Int} {ok ok' : Bool} (h : ReadIs x k r s t a b ok) (h' : ReadIs x k' r' s' t' a' b' ok') : k' = k ∧ r' = r ∧ s' = s ∧ t' = t ∧ a' = a ∧ b' = b ∧ ok' = ok := by
  rcases h with ⟨e, o, tx⟩ | ⟨e, ⟨z1, z2, z3, z4, z5, z6⟩, n⟩
  · rcases h' with ⟨e', o', tx'⟩ | ⟨_, _, n'⟩
    · obtain ⟨q1, q2, q3, q4, q5, q6⟩ := opTxt_inj o' o (tx'.symm.trans tx)
      exact ⟨q1, q2, q3, q4, q5, q6, e'.trans e.symm⟩
    · exact absurd tx (n' _ _ _ _ _ _ o)
  · rcases h' with ⟨e', o', tx'⟩ | ⟨e', ⟨y1, y2, y3, y4, y5, y6⟩, _⟩
    · exact absurd tx' (n _ _ _ _ _ _ o')
    · exact ⟨y1.trans z1.symm, y2.trans z2.symm, y3.trans z3.symm, y4.trans z4.symm, y5.trans z5.symm, y6.trans z6.symm, e'.trans e.symm⟩
theorem ReadIs.of_op {k r s t a b : Int} (h : opB k r s t a b = true) : ReadIs (opTxt k r s t a b) k r s t a b true := .inl ⟨rfl, h, rfl⟩
theorem ReadIs.none {x : List UInt8} (h : ∀ k r s t a b, opB k r s t a b = true → x ≠ opTxt k r s t a b) : ReadIs x 0 0 0 0 0 0 false := .inr ⟨rfl, by simp, h⟩
theorem implRead_of {x : List UInt8} {k r s t a b : Int} {ok : Bool} (h : ReadIs x k r s t a b ok) (w : World) (hT : Tab w) (hE : Errs w) (hM : Max w) :
    Calls Tryz.prog 10 #[.string ⟨x.toArray⟩] w fun e w' => e = .returned (.tuple #[.agg #[.int .i64 k, .int .i64 r, .int .i64 s, .int .i64 t, .int .i64 a, .int .i64 b], .bool ok]) ∧ Below w.heap.size w w' := by
  obtain ⟨k', r', s', t', a', b', ok', h', C⟩ := implOpRead_any x
  obtain ⟨rfl, rfl, rfl, rfl, rfl, rfl, rfl⟩ := h.one h'
  exact C w hT hE hM
theorem specRead_of {x : List UInt8} {k r s t a b : Int} {ok : Bool} (h : ReadIs x k r s t a b ok) (w : World) (hx : x.length ≤ 1048576) :
    Calls Tryz.prog 13 #[.string ⟨x.toArray⟩] w fun e w' => e = .returned (.tuple #[.agg #[.int .i64 k, .int .i64 r, .int .i64 s, .int .i64 t, .int .i64 a, .int .i64 b], .bool ok]) ∧ Below w.heap.size w w' := by
  refine (specOpRead_any x w hx).mono ?_
  rintro e w' ⟨k', r', s', t', a', b', ok', rfl, h', hb⟩
  obtain ⟨rfl, rfl, rfl, rfl, rfl, rfl, rfl⟩ := h.one h'
  exact ⟨rfl, hb⟩
theorem read_some (x : List UInt8) : ∃ k r s t a b ok, ReadIs x k r s t a b ok := by
  obtain ⟨k, r, s, t, a, b, ok, h, _⟩ := implOpRead_any x
  exact ⟨k, r, s, t, a, b, ok, h⟩
end Go.Proofs.YtcpkfganjndlhaaGreatDoor
