/-
  A run with lists of its own, over this translation: impl's listCopied and copied, spec's l11Copy.
-/
import Derived.Test.YtefaocjcfecipaaAppendV
import Derived.Test.YtefaocjcfecipaaToRun
namespace Go.Proofs.Ytefaocjcfecipaa
open Go.ChangeShapes Go.WideShapes Go.ChangeAt Go.RowKit Go.Joins
theorem OwnsV.form {w : World} {B : Nat} {v : Value} {L : List (Int × Int)} (h : OwnsV w B v L) : ∃ ao cap, v = .slice ao L.length cap := by
  rcases h.2 with ⟨rfl, hl⟩ | ⟨g, cap, cur, rfl, _⟩
  · exact ⟨none, 0, by rw [hl]⟩
  · exact ⟨_, _, rfl⟩
theorem Owns.form {w : World} {B : Nat} {v : Value} {L : List Int} (h : Owns w B v L) : ∃ ao cap, v = .slice ao L.length cap := by
  rcases h.2 with ⟨rfl, hl⟩ | ⟨g, cap, cur, rfl, _⟩
  · exact ⟨none, 0, by rw [hl]⟩
  · exact ⟨_, _, rfl⟩
theorem OwnsV.away {w : World} {B : Nat} {v : Value} {L : List (Int × Int)} (h : OwnsV w B v L) {c : Nat} (hc : c < B ∨ w.heap.size ≤ c) : v.ownBlock ≠ some c := fun e => by
  have := World.ownsRow.lt h c e; omega
theorem Owns.away {w : World} {B : Nat} {v : Value} {L : List Int} (h : Owns w B v L) {c : Nat} (hc : c < B ∨ w.heap.size ≤ c) : v.ownBlock ≠ some c := fun e => by
  have := World.ownsRow.lt h c e; omega
theorem OwnsV.apart_of {w : World} {B C : Nat} {u v : Value} {L : List (Int × Int)} (h : OwnsV w B v L) (hu : ∀ k, u.ownBlock = some k → k < C) (hc : C ≤ B) : Apart u v := fun k e1 e2 => by
  have := World.ownsRow.lt h k e2; have := hu k e1; omega
theorem Owns.apart_of {w : World} {B C : Nat} {u v : Value} {L : List Int} (h : Owns w B v L) (hu : ∀ k, u.ownBlock = some k → k < C) (hc : C ≤ B) : Apart u v := fun k e1 e2 => by
  have := World.ownsRow.lt h k e2; have := hu k e1; omega

set_option maxHeartbeats 1000000 in
theorem copyVals_any (S : Nat) (L : List (Int × Int)) (v : Value) (w : World) (hl : L.length ≤ 1048576) (h : Vals S w v L) :
    Calls Try.prog 75 #[v] w fun e w' => ∃ ao cap, e = .returned (.slice ao L.length cap) ∧ OwnsV w' w.heap.size (.slice ao L.length cap) L ∧ Below w.heap.size w w' := by
  have hnil : OwnsV w w.heap.size (.slice none 0 0) [] := World.ownsRow_nil w w.heap.size 24 2
  have hn : ([] : List (Int × Int)).length + L.length ≤ 16777216 := by simp; omega
  replace h : Hid (Vals S w v L) := h
  go_enter Try.func75, Try.ntmps75
  go_wp2_with (refine wpList_append_V _ rfl (.const (.slice none 0 0)) (.tmp 3) rfl rfl rfl hnil h.out hn (Nat.le_refl _) ?_; intro v' w1 ho hg hw; show Hid _)
  rw [List.nil_append] at ho
  obtain ⟨ao, cap, rfl⟩ := ho.form
  delta Hid
  go_wp2_with fail
  refine .inl (wpList_nil ?_)
  go_step
  go_step
  go_wp2_with fail
  go_ret
  exact ⟨ao, cap, rfl, ho, (Below.refl _ _).grown hg (Nat.le_refl _) (by intro k e; cases e)⟩
set_option maxHeartbeats 1000000 in
theorem copyInts_any (S : Nat) (L : List Int) (v : Value) (w : World) (hl : L.length ≤ 1048576) (h : Ints S w v L) :
    Calls Try.prog 76 #[v] w fun e w' => ∃ ao cap, e = .returned (.slice ao L.length cap) ∧ Owns w' w.heap.size (.slice ao L.length cap) L ∧ Below w.heap.size w w' := by
  have hnil : Owns w w.heap.size (.slice none 0 0) [] := World.ownsRow_nil w w.heap.size 3 1
  have hn : ([] : List Int).length + L.length ≤ 16777216 := by simp; omega
  replace h : Hid (Ints S w v L) := h
  go_enter Try.func76, Try.ntmps76
  go_wp2_with (refine wpList_append_I _ rfl (.const (.slice none 0 0)) (.tmp 3) rfl rfl rfl hnil h.out hn (Nat.le_refl _) ?_; intro v' w1 ho hg hw; show Hid _)
  rw [List.nil_append] at ho
  obtain ⟨ao, cap, rfl⟩ := ho.form
  delta Hid
  go_wp2_with fail
  refine .inl (wpList_nil ?_)
  go_step
  go_step
  go_wp2_with fail
  go_ret
  exact ⟨ao, cap, rfl, ho, (Below.refl _ _).grown hg (Nat.le_refl _) (by intro k e; cases e)⟩
set_option maxRecDepth 20000 in
set_option maxHeartbeats 4000000 in
/-- impl's copied -/
theorem copied_any (S : Nat) (d : RunD) (q : RunP) (w : World) (hS : S ≤ w.heap.size) (hs : d.Short) (hM : RunMem S w d q) :
    Calls Try.prog 58 #[d.val q] w fun e w' => ∃ p, e = .returned (d.val p) ∧ OwnRun w' w.heap.size d p ∧ Below w.heap.size w w' := by
  replace hs : Hid d.Short := hs
  go_enter Try.func58, Try.ntmps58
  have hO : RunBoxF (w.alloc (.cells (d.cells q) 30)) w.heap.size d q := RunBoxF.new w d q 30
  have hR : RunBoxF ((w.alloc (.cells (d.cells q) 30)).alloc (.cells #[.int .i64 0, .int .i64 0, .slice none 0 0, .int .i64 0, .slice none 0 0, .int .i64 0, .int .i64 0, .slice none 0 0, .slice none 0 0, .bool false, .int .i64 0, .int .i64 0, .int .i64 0] 30)) (w.heap.size + 1) runZ runPZ := RunBoxF.new' _ _ _ _ _ _ (by simp) rfl
  replace hO := hO.below (S := w.heap.size + 1) (by omega) ((Below.refl _ _).alloc (by simp) (.cells #[.int .i64 0, .int .i64 0, .slice none 0 0, .int .i64 0, .slice none 0 0, .int .i64 0, .int .i64 0, .slice none 0 0, .slice none 0 0, .bool false, .int .i64 0, .int .i64 0, .int .i64 0] 30))
  have hB : Below w.heap.size w ((w.alloc (.cells (d.cells q) 30)).alloc (.cells #[.int .i64 0, .int .i64 0, .slice none 0 0, .int .i64 0, .slice none 0 0, .int .i64 0, .int .i64 0, .slice none 0 0, .slice none 0 0, .bool false, .int .i64 0, .int .i64 0, .int .i64 0] 30)) := ((Below.refl _ _).alloc (Nat.le_refl _) _).alloc (by simp) _
  go_wp2_with fail
  generalize ((w.alloc (.cells (d.cells q) 30)).alloc (.cells #[.int .i64 0, .int .i64 0, .slice none 0 0, .int .i64 0, .slice none 0 0, .int .i64 0, .int .i64 0, .slice none 0 0, .slice none 0 0, .bool false, .int .i64 0, .int .i64 0, .int .i64 0] 30)) = V0 at *
  refine (copyVals_any S d.slots _ _ hs.out.s0 ((hM.below (hB.mono hS)).m0)).mono ?_
  rintro e V1 ⟨a0, k0, rfl, u0, hb⟩
  have hlr := hR.lt
  replace hO := hO.below hO.lt hb
  replace hR := hR.below hR.lt hb
  replace hB := hB.trans (hb.mono hB.size)
  have hsz := hb.size
  generalize hce0 : V0.heap.size = c0 at *
  clear hb hce0
  have y0 : w.heap.size + 1 < c0 := hlr
  clear hlr
  clear hsz
  obtain ⟨o0, o1, o2, o3, o4, o5, o6, o7, o8, o9, o10, o11, o12⟩ := id hO.at_
  have f2 := hO.fr 2
  have hlr := hR.lt
  go_wp2_with fail
  clear f2 hlr
  clear o0 o1 o2 o3 o4 o5 o6 o7 o8 o9 o10 o11 o12
  replace hO : RunBoxF (V1.setCell ⟨w.heap.size, 2, none⟩ (.slice a0 d.slots.length k0)) w.heap.size d ⟨a0, k0, q.a1, q.k1, q.a2, q.k2, q.a3, q.k3⟩ := hO.put2 d.slots a0 k0
  replace hR : RunBoxF (V1.setCell ⟨w.heap.size, 2, none⟩ (.slice a0 d.slots.length k0)) (w.heap.size + 1) runZ runPZ := hR.other (by show w.heap.size ≠ _; omega) _
  replace hB : Below w.heap.size w (V1.setCell ⟨w.heap.size, 2, none⟩ (.slice a0 d.slots.length k0)) := hB.setCell (by show w.heap.size ≤ w.heap.size; omega) _
  replace u0 : OwnsV (V1.setCell ⟨w.heap.size, 2, none⟩ (.slice a0 d.slots.length k0)) c0 (.slice a0 d.slots.length k0) d.slots := u0.put (u0.away (.inl (by show w.heap.size < _; omega))) _
  generalize (V1.setCell ⟨w.heap.size, 2, none⟩ (.slice a0 d.slots.length k0)) = X1 at *
  refine (copyVals_any S d.mail _ _ hs.out.s1 ((hM.below (hB.mono hS)).m1)).mono ?_
  rintro e V2 ⟨a1, k1, rfl, u1, hb⟩
  have hlr := hR.lt
  have l01 : ∀ k, (Value.slice a0 d.slots.length k0).ownBlock = some k → k < X1.heap.size := fun k e => (World.ownsRow.lt u0 k e).2
  replace hO := hO.below hO.lt hb
  replace hR := hR.below hR.lt hb
  replace u0 := u0.below hb
  replace hB := hB.trans (hb.mono hB.size)
  have hsz := hb.size
  generalize hce1 : X1.heap.size = c1 at *
  clear hb hce1
  have y1 : w.heap.size + 1 < c1 := hlr
  clear hlr
  have d01 := u1.apart_of l01 (Nat.le_refl _)
  clear l01
  clear hsz
  obtain ⟨o0, o1, o2, o3, o4, o5, o6, o7, o8, o9, o10, o11, o12⟩ := id hO.at_
  have f4 := hO.fr 4
  have hlr := hR.lt
  go_wp2_with fail
  clear f4 hlr
  clear o0 o1 o2 o3 o4 o5 o6 o7 o8 o9 o10 o11 o12
  replace hO : RunBoxF (V2.setCell ⟨w.heap.size, 4, none⟩ (.slice a1 d.mail.length k1)) w.heap.size d ⟨a0, k0, a1, k1, q.a2, q.k2, q.a3, q.k3⟩ := hO.put4 d.mail a1 k1
  replace hR : RunBoxF (V2.setCell ⟨w.heap.size, 4, none⟩ (.slice a1 d.mail.length k1)) (w.heap.size + 1) runZ runPZ := hR.other (by show w.heap.size ≠ _; omega) _
  replace hB : Below w.heap.size w (V2.setCell ⟨w.heap.size, 4, none⟩ (.slice a1 d.mail.length k1)) := hB.setCell (by show w.heap.size ≤ w.heap.size; omega) _
  replace u0 : OwnsV (V2.setCell ⟨w.heap.size, 4, none⟩ (.slice a1 d.mail.length k1)) c0 (.slice a0 d.slots.length k0) d.slots := u0.put (u0.away (.inl (by show w.heap.size < _; omega))) _
  replace u1 : OwnsV (V2.setCell ⟨w.heap.size, 4, none⟩ (.slice a1 d.mail.length k1)) c1 (.slice a1 d.mail.length k1) d.mail := u1.put (u1.away (.inl (by show w.heap.size < _; omega))) _
  generalize (V2.setCell ⟨w.heap.size, 4, none⟩ (.slice a1 d.mail.length k1)) = X2 at *
  refine (copyInts_any S d.links _ _ hs.out.s2 ((hM.below (hB.mono hS)).m2)).mono ?_
  rintro e V3 ⟨a2, k2, rfl, u2, hb⟩
  have hlr := hR.lt
  have l02 : ∀ k, (Value.slice a0 d.slots.length k0).ownBlock = some k → k < X2.heap.size := fun k e => (World.ownsRow.lt u0 k e).2
  have l12 : ∀ k, (Value.slice a1 d.mail.length k1).ownBlock = some k → k < X2.heap.size := fun k e => (World.ownsRow.lt u1 k e).2
  replace hO := hO.below hO.lt hb
  replace hR := hR.below hR.lt hb
  replace u0 := u0.below hb
  replace u1 := u1.below hb
  replace hB := hB.trans (hb.mono hB.size)
  have hsz := hb.size
  generalize hce2 : X2.heap.size = c2 at *
  clear hb hce2
  have y2 : w.heap.size + 1 < c2 := hlr
  clear hlr
  have d02 := u2.apart_of l02 (Nat.le_refl _)
  clear l02
  have d12 := u2.apart_of l12 (Nat.le_refl _)
  clear l12
  clear hsz
  obtain ⟨o0, o1, o2, o3, o4, o5, o6, o7, o8, o9, o10, o11, o12⟩ := id hO.at_
  have f7 := hO.fr 7
  have hlr := hR.lt
  go_wp2_with fail
  clear f7 hlr
  clear o0 o1 o2 o3 o4 o5 o6 o7 o8 o9 o10 o11 o12
  replace hO : RunBoxF (V3.setCell ⟨w.heap.size, 7, none⟩ (.slice a2 d.links.length k2)) w.heap.size d ⟨a0, k0, a1, k1, a2, k2, q.a3, q.k3⟩ := hO.put7 d.links a2 k2
  replace hR : RunBoxF (V3.setCell ⟨w.heap.size, 7, none⟩ (.slice a2 d.links.length k2)) (w.heap.size + 1) runZ runPZ := hR.other (by show w.heap.size ≠ _; omega) _
  replace hB : Below w.heap.size w (V3.setCell ⟨w.heap.size, 7, none⟩ (.slice a2 d.links.length k2)) := hB.setCell (by show w.heap.size ≤ w.heap.size; omega) _
  replace u0 : OwnsV (V3.setCell ⟨w.heap.size, 7, none⟩ (.slice a2 d.links.length k2)) c0 (.slice a0 d.slots.length k0) d.slots := u0.put (u0.away (.inl (by show w.heap.size < _; omega))) _
  replace u1 : OwnsV (V3.setCell ⟨w.heap.size, 7, none⟩ (.slice a2 d.links.length k2)) c1 (.slice a1 d.mail.length k1) d.mail := u1.put (u1.away (.inl (by show w.heap.size < _; omega))) _
  replace u2 : Owns (V3.setCell ⟨w.heap.size, 7, none⟩ (.slice a2 d.links.length k2)) c2 (.slice a2 d.links.length k2) d.links := u2.put (u2.away (.inl (by show w.heap.size < _; omega))) _
  generalize (V3.setCell ⟨w.heap.size, 7, none⟩ (.slice a2 d.links.length k2)) = X3 at *
  refine (copyInts_any S d.wat _ _ hs.out.s3 ((hM.below (hB.mono hS)).m3)).mono ?_
  rintro e V4 ⟨a3, k3, rfl, u3, hb⟩
  have hlr := hR.lt
  have l03 : ∀ k, (Value.slice a0 d.slots.length k0).ownBlock = some k → k < X3.heap.size := fun k e => (World.ownsRow.lt u0 k e).2
  have l13 : ∀ k, (Value.slice a1 d.mail.length k1).ownBlock = some k → k < X3.heap.size := fun k e => (World.ownsRow.lt u1 k e).2
  have l23 : ∀ k, (Value.slice a2 d.links.length k2).ownBlock = some k → k < X3.heap.size := fun k e => (World.ownsRow.lt u2 k e).2
  replace hO := hO.below hO.lt hb
  replace hR := hR.below hR.lt hb
  replace u0 := u0.below hb
  replace u1 := u1.below hb
  replace u2 := u2.below hb
  replace hB := hB.trans (hb.mono hB.size)
  have hsz := hb.size
  generalize hce3 : X3.heap.size = c3 at *
  clear hb hce3
  have y3 : w.heap.size + 1 < c3 := hlr
  clear hlr
  have d03 := u3.apart_of l03 (Nat.le_refl _)
  clear l03
  have d13 := u3.apart_of l13 (Nat.le_refl _)
  clear l13
  have d23 := u3.apart_of l23 (Nat.le_refl _)
  clear l23
  clear hsz
  obtain ⟨o0, o1, o2, o3, o4, o5, o6, o7, o8, o9, o10, o11, o12⟩ := id hO.at_
  have f8 := hO.fr 8
  obtain ⟨r0, r1, r2, r3, r4, r5, r6, r7, r8, r9, r10, r11, r12⟩ := id hR.at_
  have e0 := hR.fr 0
  have e1 := hR.fr 1
  have e2 := hR.fr 2
  have e3 := hR.fr 3
  have e4 := hR.fr 4
  have e5 := hR.fr 5
  have e6 := hR.fr 6
  have e7 := hR.fr 7
  have e8 := hR.fr 8
  have e9 := hR.fr 9
  have e10 := hR.fr 10
  have e11 := hR.fr 11
  have e12 := hR.fr 12
  have hlr := hR.lt
  go_wp2_with fail
  exact bodyPost_ret (v := d.val ⟨a0, k0, a1, k1, a2, k2, a3, k3⟩) (by simp [results, Try.results58, go_sem, r0, r1, r2, r3, r4, r5, r6, r7, r8, r9, r10, r11, r12]) rfl ⟨⟨a0, k0, a1, k1, a2, k2, a3, k3⟩, rfl, ⟨(((((((((((((((u0.put (a := ⟨w.heap.size, 8, none⟩) (u0.away (.inl (by show w.heap.size < _; omega))) (.slice a3 d.wat.length k3)).put (u0.away (c := (w.heap.size + 1)) (.inl (by omega))) _).put (u0.away (c := (w.heap.size + 1)) (.inl (by omega))) _).put (u0.away (c := (w.heap.size + 1)) (.inl (by omega))) _).put (u0.away (c := (w.heap.size + 1)) (.inl (by omega))) _).put (u0.away (c := (w.heap.size + 1)) (.inl (by omega))) _).put (u0.away (c := (w.heap.size + 1)) (.inl (by omega))) _).put (u0.away (c := (w.heap.size + 1)) (.inl (by omega))) _).put (u0.away (c := (w.heap.size + 1)) (.inl (by omega))) _).put (u0.away (c := (w.heap.size + 1)) (.inl (by omega))) _).put (u0.away (c := (w.heap.size + 1)) (.inl (by omega))) _).put (u0.away (c := (w.heap.size + 1)) (.inl (by omega))) _).put (u0.away (c := (w.heap.size + 1)) (.inl (by omega))) _).put (u0.away (c := (w.heap.size + 1)) (.inl (by omega))) _).mono (by omega)), (((((((((((((((u1.put (a := ⟨w.heap.size, 8, none⟩) (u1.away (.inl (by show w.heap.size < _; omega))) (.slice a3 d.wat.length k3)).put (u1.away (c := (w.heap.size + 1)) (.inl (by omega))) _).put (u1.away (c := (w.heap.size + 1)) (.inl (by omega))) _).put (u1.away (c := (w.heap.size + 1)) (.inl (by omega))) _).put (u1.away (c := (w.heap.size + 1)) (.inl (by omega))) _).put (u1.away (c := (w.heap.size + 1)) (.inl (by omega))) _).put (u1.away (c := (w.heap.size + 1)) (.inl (by omega))) _).put (u1.away (c := (w.heap.size + 1)) (.inl (by omega))) _).put (u1.away (c := (w.heap.size + 1)) (.inl (by omega))) _).put (u1.away (c := (w.heap.size + 1)) (.inl (by omega))) _).put (u1.away (c := (w.heap.size + 1)) (.inl (by omega))) _).put (u1.away (c := (w.heap.size + 1)) (.inl (by omega))) _).put (u1.away (c := (w.heap.size + 1)) (.inl (by omega))) _).put (u1.away (c := (w.heap.size + 1)) (.inl (by omega))) _).mono (by omega)), (((((((((((((((u2.put (a := ⟨w.heap.size, 8, none⟩) (u2.away (.inl (by show w.heap.size < _; omega))) (.slice a3 d.wat.length k3)).put (u2.away (c := (w.heap.size + 1)) (.inl (by omega))) _).put (u2.away (c := (w.heap.size + 1)) (.inl (by omega))) _).put (u2.away (c := (w.heap.size + 1)) (.inl (by omega))) _).put (u2.away (c := (w.heap.size + 1)) (.inl (by omega))) _).put (u2.away (c := (w.heap.size + 1)) (.inl (by omega))) _).put (u2.away (c := (w.heap.size + 1)) (.inl (by omega))) _).put (u2.away (c := (w.heap.size + 1)) (.inl (by omega))) _).put (u2.away (c := (w.heap.size + 1)) (.inl (by omega))) _).put (u2.away (c := (w.heap.size + 1)) (.inl (by omega))) _).put (u2.away (c := (w.heap.size + 1)) (.inl (by omega))) _).put (u2.away (c := (w.heap.size + 1)) (.inl (by omega))) _).put (u2.away (c := (w.heap.size + 1)) (.inl (by omega))) _).put (u2.away (c := (w.heap.size + 1)) (.inl (by omega))) _).mono (by omega)), (((((((((((((((u3.put (a := ⟨w.heap.size, 8, none⟩) (u3.away (.inl (by show w.heap.size < _; omega))) (.slice a3 d.wat.length k3)).put (u3.away (c := (w.heap.size + 1)) (.inl (by omega))) _).put (u3.away (c := (w.heap.size + 1)) (.inl (by omega))) _).put (u3.away (c := (w.heap.size + 1)) (.inl (by omega))) _).put (u3.away (c := (w.heap.size + 1)) (.inl (by omega))) _).put (u3.away (c := (w.heap.size + 1)) (.inl (by omega))) _).put (u3.away (c := (w.heap.size + 1)) (.inl (by omega))) _).put (u3.away (c := (w.heap.size + 1)) (.inl (by omega))) _).put (u3.away (c := (w.heap.size + 1)) (.inl (by omega))) _).put (u3.away (c := (w.heap.size + 1)) (.inl (by omega))) _).put (u3.away (c := (w.heap.size + 1)) (.inl (by omega))) _).put (u3.away (c := (w.heap.size + 1)) (.inl (by omega))) _).put (u3.away (c := (w.heap.size + 1)) (.inl (by omega))) _).put (u3.away (c := (w.heap.size + 1)) (.inl (by omega))) _).mono (by omega)), d01, d02, d03, d12, d13, d23⟩, ((((((((((((((hB.setCell (by show w.heap.size ≤ w.heap.size; omega) _).setCell (by show w.heap.size ≤ (w.heap.size + 1); omega) _).setCell (by show w.heap.size ≤ (w.heap.size + 1); omega) _).setCell (by show w.heap.size ≤ (w.heap.size + 1); omega) _).setCell (by show w.heap.size ≤ (w.heap.size + 1); omega) _).setCell (by show w.heap.size ≤ (w.heap.size + 1); omega) _).setCell (by show w.heap.size ≤ (w.heap.size + 1); omega) _).setCell (by show w.heap.size ≤ (w.heap.size + 1); omega) _).setCell (by show w.heap.size ≤ (w.heap.size + 1); omega) _).setCell (by show w.heap.size ≤ (w.heap.size + 1); omega) _).setCell (by show w.heap.size ≤ (w.heap.size + 1); omega) _).setCell (by show w.heap.size ≤ (w.heap.size + 1); omega) _).setCell (by show w.heap.size ≤ (w.heap.size + 1); omega) _).setCell (by show w.heap.size ≤ (w.heap.size + 1); omega) _)⟩
set_option maxRecDepth 20000 in
set_option maxHeartbeats 4000000 in
/-- spec's l11Copy -/
theorem l11Copy_any (S : Nat) (d : RunD) (q : RunP) (w : World) (hS : S ≤ w.heap.size) (hs : d.Short) (hM : RunMem S w d q) :
    Calls Try.prog 56 #[d.val q] w fun e w' => ∃ p, e = .returned (d.val p) ∧ OwnRun w' w.heap.size d p ∧ Below w.heap.size w w' := by
  replace hs : Hid d.Short := hs
  go_enter Try.func56, Try.ntmps56
  have hO : RunBoxF (w.alloc (.cells (d.cells q) 30)) w.heap.size d q := RunBoxF.new w d q 30
  have hR : RunBoxF ((w.alloc (.cells (d.cells q) 30)).alloc (.cells #[.int .i64 0, .int .i64 0, .slice none 0 0, .int .i64 0, .slice none 0 0, .int .i64 0, .int .i64 0, .slice none 0 0, .slice none 0 0, .bool false, .int .i64 0, .int .i64 0, .int .i64 0] 30)) (w.heap.size + 1) runZ runPZ := RunBoxF.new' _ _ _ _ _ _ (by simp) rfl
  replace hO := hO.below (S := w.heap.size + 1) (by omega) ((Below.refl _ _).alloc (by simp) (.cells #[.int .i64 0, .int .i64 0, .slice none 0 0, .int .i64 0, .slice none 0 0, .int .i64 0, .int .i64 0, .slice none 0 0, .slice none 0 0, .bool false, .int .i64 0, .int .i64 0, .int .i64 0] 30))
  have hB : Below w.heap.size w ((w.alloc (.cells (d.cells q) 30)).alloc (.cells #[.int .i64 0, .int .i64 0, .slice none 0 0, .int .i64 0, .slice none 0 0, .int .i64 0, .int .i64 0, .slice none 0 0, .slice none 0 0, .bool false, .int .i64 0, .int .i64 0, .int .i64 0] 30)) := ((Below.refl _ _).alloc (Nat.le_refl _) _).alloc (by simp) _
  go_upto_region 1 with fail
  generalize ((w.alloc (.cells (d.cells q) 30)).alloc (.cells #[.int .i64 0, .int .i64 0, .slice none 0 0, .int .i64 0, .slice none 0 0, .int .i64 0, .int .i64 0, .slice none 0 0, .slice none 0 0, .bool false, .int .i64 0, .int .i64 0, .int .i64 0] 30)) = V0 at *
  obtain ⟨o0, o1, o2, o3, o4, o5, o6, o7, o8, o9, o10, o11, o12⟩ := id hO.at_
  have hem : OwnsV (V0.alloc (.cells #[] 24)) V0.heap.size (.slice (some ⟨V0.heap.size, 0, none⟩) 0 0) [] := World.ownsRow_lit V0 #[] 0 (Nat.le_refl _) (by unfold maxLen; omega) rfl
  have hal : Below V0.heap.size V0 (V0.alloc (.cells #[] 24)) := (Below.refl _ _).alloc (Nat.le_refl _) _
  have hx : Hid (Vals S (V0.alloc (.cells #[] 24)) (.slice q.a0 d.slots.length q.k0) d.slots) := ((hM.below (hB.mono hS)).below (hal.mono (Nat.le_trans hS hB.size))).m0
  have hn : ([] : List (Int × Int)).length + d.slots.length ≤ 16777216 := by have := hs.out.s0; simp; omega
  have hle : V0.heap.size ≤ (V0.alloc (.cells #[] 24)).heap.size := by simp
  have hlr := hR.lt
  have hlo := hO.lt
  go_wp2_with (refine wpList_append_V _ rfl (.tmp 3) (.tmp 5) rfl rfl rfl hem hx.out hn hle ?_; intro v' V1 u0 hg hw; show Hid _)
  clear o0 o1 o2 o3 o4 o5 o6 o7 o8 o9 o10 o11 o12
  rw [List.nil_append] at u0
  obtain ⟨a0, k0, rfl⟩ := u0.form
  have hb : Below V0.heap.size V0 V1 := hal.grown hg hle (by intro k e; cases e; exact Nat.le_refl _)
  clear hem hx hn hal hg hw hle hlo
  replace hO := hO.below hO.lt hb
  replace hR := hR.below hR.lt hb
  replace hB := hB.trans (hb.mono hB.size)
  have hsz := hb.size
  generalize hce0 : V0.heap.size = c0 at *
  clear hb hce0
  have y0 : w.heap.size + 1 < c0 := hlr
  clear hlr
  clear hsz
  obtain ⟨o0, o1, o2, o3, o4, o5, o6, o7, o8, o9, o10, o11, o12⟩ := id hO.at_
  have f2 := hO.fr 2
  have hlr := hR.lt
  delta Hid
  refine .inl ?_
  go_upto_region 2 with fail
  clear f2 hlr
  clear o0 o1 o2 o3 o4 o5 o6 o7 o8 o9 o10 o11 o12
  replace hO : RunBoxF (V1.setCell ⟨w.heap.size, 2, none⟩ (.slice a0 d.slots.length k0)) w.heap.size d ⟨a0, k0, q.a1, q.k1, q.a2, q.k2, q.a3, q.k3⟩ := hO.put2 d.slots a0 k0
  replace hR : RunBoxF (V1.setCell ⟨w.heap.size, 2, none⟩ (.slice a0 d.slots.length k0)) (w.heap.size + 1) runZ runPZ := hR.other (by show w.heap.size ≠ _; omega) _
  replace hB : Below w.heap.size w (V1.setCell ⟨w.heap.size, 2, none⟩ (.slice a0 d.slots.length k0)) := hB.setCell (by show w.heap.size ≤ w.heap.size; omega) _
  replace u0 : OwnsV (V1.setCell ⟨w.heap.size, 2, none⟩ (.slice a0 d.slots.length k0)) c0 (.slice a0 d.slots.length k0) d.slots := u0.put (u0.away (.inl (by show w.heap.size < _; omega))) _
  generalize (V1.setCell ⟨w.heap.size, 2, none⟩ (.slice a0 d.slots.length k0)) = X1 at *
  obtain ⟨o0, o1, o2, o3, o4, o5, o6, o7, o8, o9, o10, o11, o12⟩ := id hO.at_
  have hem : OwnsV (X1.alloc (.cells #[] 24)) X1.heap.size (.slice (some ⟨X1.heap.size, 0, none⟩) 0 0) [] := World.ownsRow_lit X1 #[] 0 (Nat.le_refl _) (by unfold maxLen; omega) rfl
  have hal : Below X1.heap.size X1 (X1.alloc (.cells #[] 24)) := (Below.refl _ _).alloc (Nat.le_refl _) _
  have hx : Hid (Vals S (X1.alloc (.cells #[] 24)) (.slice q.a1 d.mail.length q.k1) d.mail) := ((hM.below (hB.mono hS)).below (hal.mono (Nat.le_trans hS hB.size))).m1
  have hn : ([] : List (Int × Int)).length + d.mail.length ≤ 16777216 := by have := hs.out.s1; simp; omega
  have hle : X1.heap.size ≤ (X1.alloc (.cells #[] 24)).heap.size := by simp
  have hlr := hR.lt
  have hlo := hO.lt
  go_wp2_with (refine wpList_append_V _ rfl (.tmp 8) (.tmp 10) rfl rfl rfl hem hx.out hn hle ?_; intro v' V2 u1 hg hw; show Hid _)
  clear o0 o1 o2 o3 o4 o5 o6 o7 o8 o9 o10 o11 o12
  rw [List.nil_append] at u1
  obtain ⟨a1, k1, rfl⟩ := u1.form
  have hb : Below X1.heap.size X1 V2 := hal.grown hg hle (by intro k e; cases e; exact Nat.le_refl _)
  clear hem hx hn hal hg hw hle hlo
  have l01 : ∀ k, (Value.slice a0 d.slots.length k0).ownBlock = some k → k < X1.heap.size := fun k e => (World.ownsRow.lt u0 k e).2
  replace hO := hO.below hO.lt hb
  replace hR := hR.below hR.lt hb
  replace u0 := u0.below hb
  replace hB := hB.trans (hb.mono hB.size)
  have hsz := hb.size
  generalize hce1 : X1.heap.size = c1 at *
  clear hb hce1
  have y1 : w.heap.size + 1 < c1 := hlr
  clear hlr
  have d01 := u1.apart_of l01 (Nat.le_refl _)
  clear l01
  clear hsz
  obtain ⟨o0, o1, o2, o3, o4, o5, o6, o7, o8, o9, o10, o11, o12⟩ := id hO.at_
  have f4 := hO.fr 4
  have hlr := hR.lt
  delta Hid
  refine .inl ?_
  go_upto_region 3 with fail
  clear f4 hlr
  clear o0 o1 o2 o3 o4 o5 o6 o7 o8 o9 o10 o11 o12
  replace hO : RunBoxF (V2.setCell ⟨w.heap.size, 4, none⟩ (.slice a1 d.mail.length k1)) w.heap.size d ⟨a0, k0, a1, k1, q.a2, q.k2, q.a3, q.k3⟩ := hO.put4 d.mail a1 k1
  replace hR : RunBoxF (V2.setCell ⟨w.heap.size, 4, none⟩ (.slice a1 d.mail.length k1)) (w.heap.size + 1) runZ runPZ := hR.other (by show w.heap.size ≠ _; omega) _
  replace hB : Below w.heap.size w (V2.setCell ⟨w.heap.size, 4, none⟩ (.slice a1 d.mail.length k1)) := hB.setCell (by show w.heap.size ≤ w.heap.size; omega) _
  replace u0 : OwnsV (V2.setCell ⟨w.heap.size, 4, none⟩ (.slice a1 d.mail.length k1)) c0 (.slice a0 d.slots.length k0) d.slots := u0.put (u0.away (.inl (by show w.heap.size < _; omega))) _
  replace u1 : OwnsV (V2.setCell ⟨w.heap.size, 4, none⟩ (.slice a1 d.mail.length k1)) c1 (.slice a1 d.mail.length k1) d.mail := u1.put (u1.away (.inl (by show w.heap.size < _; omega))) _
  generalize (V2.setCell ⟨w.heap.size, 4, none⟩ (.slice a1 d.mail.length k1)) = X2 at *
  obtain ⟨o0, o1, o2, o3, o4, o5, o6, o7, o8, o9, o10, o11, o12⟩ := id hO.at_
  have hem : Owns (X2.alloc (.cells #[] 3)) X2.heap.size (.slice (some ⟨X2.heap.size, 0, none⟩) 0 0) [] := World.ownsRow_lit X2 #[] 0 (Nat.le_refl _) (by unfold maxLen; omega) rfl
  have hal : Below X2.heap.size X2 (X2.alloc (.cells #[] 3)) := (Below.refl _ _).alloc (Nat.le_refl _) _
  have hx : Hid (Ints S (X2.alloc (.cells #[] 3)) (.slice q.a2 d.links.length q.k2) d.links) := ((hM.below (hB.mono hS)).below (hal.mono (Nat.le_trans hS hB.size))).m2
  have hn : ([] : List Int).length + d.links.length ≤ 16777216 := by have := hs.out.s2; simp; omega
  have hle : X2.heap.size ≤ (X2.alloc (.cells #[] 3)).heap.size := by simp
  have hlr := hR.lt
  have hlo := hO.lt
  go_wp2_with (refine wpList_append_I _ rfl (.tmp 13) (.tmp 15) rfl rfl rfl hem hx.out hn hle ?_; intro v' V3 u2 hg hw; show Hid _)
  clear o0 o1 o2 o3 o4 o5 o6 o7 o8 o9 o10 o11 o12
  rw [List.nil_append] at u2
  obtain ⟨a2, k2, rfl⟩ := u2.form
  have hb : Below X2.heap.size X2 V3 := hal.grown hg hle (by intro k e; cases e; exact Nat.le_refl _)
  clear hem hx hn hal hg hw hle hlo
  have l02 : ∀ k, (Value.slice a0 d.slots.length k0).ownBlock = some k → k < X2.heap.size := fun k e => (World.ownsRow.lt u0 k e).2
  have l12 : ∀ k, (Value.slice a1 d.mail.length k1).ownBlock = some k → k < X2.heap.size := fun k e => (World.ownsRow.lt u1 k e).2
  replace hO := hO.below hO.lt hb
  replace hR := hR.below hR.lt hb
  replace u0 := u0.below hb
  replace u1 := u1.below hb
  replace hB := hB.trans (hb.mono hB.size)
  have hsz := hb.size
  generalize hce2 : X2.heap.size = c2 at *
  clear hb hce2
  have y2 : w.heap.size + 1 < c2 := hlr
  clear hlr
  have d02 := u2.apart_of l02 (Nat.le_refl _)
  clear l02
  have d12 := u2.apart_of l12 (Nat.le_refl _)
  clear l12
  clear hsz
  obtain ⟨o0, o1, o2, o3, o4, o5, o6, o7, o8, o9, o10, o11, o12⟩ := id hO.at_
  have f7 := hO.fr 7
  have hlr := hR.lt
  delta Hid
  refine .inl ?_
  go_upto_region 4 with fail
  clear f7 hlr
  clear o0 o1 o2 o3 o4 o5 o6 o7 o8 o9 o10 o11 o12
  replace hO : RunBoxF (V3.setCell ⟨w.heap.size, 7, none⟩ (.slice a2 d.links.length k2)) w.heap.size d ⟨a0, k0, a1, k1, a2, k2, q.a3, q.k3⟩ := hO.put7 d.links a2 k2
  replace hR : RunBoxF (V3.setCell ⟨w.heap.size, 7, none⟩ (.slice a2 d.links.length k2)) (w.heap.size + 1) runZ runPZ := hR.other (by show w.heap.size ≠ _; omega) _
  replace hB : Below w.heap.size w (V3.setCell ⟨w.heap.size, 7, none⟩ (.slice a2 d.links.length k2)) := hB.setCell (by show w.heap.size ≤ w.heap.size; omega) _
  replace u0 : OwnsV (V3.setCell ⟨w.heap.size, 7, none⟩ (.slice a2 d.links.length k2)) c0 (.slice a0 d.slots.length k0) d.slots := u0.put (u0.away (.inl (by show w.heap.size < _; omega))) _
  replace u1 : OwnsV (V3.setCell ⟨w.heap.size, 7, none⟩ (.slice a2 d.links.length k2)) c1 (.slice a1 d.mail.length k1) d.mail := u1.put (u1.away (.inl (by show w.heap.size < _; omega))) _
  replace u2 : Owns (V3.setCell ⟨w.heap.size, 7, none⟩ (.slice a2 d.links.length k2)) c2 (.slice a2 d.links.length k2) d.links := u2.put (u2.away (.inl (by show w.heap.size < _; omega))) _
  generalize (V3.setCell ⟨w.heap.size, 7, none⟩ (.slice a2 d.links.length k2)) = X3 at *
  obtain ⟨o0, o1, o2, o3, o4, o5, o6, o7, o8, o9, o10, o11, o12⟩ := id hO.at_
  have hem : Owns (X3.alloc (.cells #[] 3)) X3.heap.size (.slice (some ⟨X3.heap.size, 0, none⟩) 0 0) [] := World.ownsRow_lit X3 #[] 0 (Nat.le_refl _) (by unfold maxLen; omega) rfl
  have hal : Below X3.heap.size X3 (X3.alloc (.cells #[] 3)) := (Below.refl _ _).alloc (Nat.le_refl _) _
  have hx : Hid (Ints S (X3.alloc (.cells #[] 3)) (.slice q.a3 d.wat.length q.k3) d.wat) := ((hM.below (hB.mono hS)).below (hal.mono (Nat.le_trans hS hB.size))).m3
  have hn : ([] : List Int).length + d.wat.length ≤ 16777216 := by have := hs.out.s3; simp; omega
  have hle : X3.heap.size ≤ (X3.alloc (.cells #[] 3)).heap.size := by simp
  have hlr := hR.lt
  have hlo := hO.lt
  go_wp2_with (refine wpList_append_I _ rfl (.tmp 18) (.tmp 20) rfl rfl rfl hem hx.out hn hle ?_; intro v' V4 u3 hg hw; show Hid _)
  clear o0 o1 o2 o3 o4 o5 o6 o7 o8 o9 o10 o11 o12
  rw [List.nil_append] at u3
  obtain ⟨a3, k3, rfl⟩ := u3.form
  have hb : Below X3.heap.size X3 V4 := hal.grown hg hle (by intro k e; cases e; exact Nat.le_refl _)
  clear hem hx hn hal hg hw hle hlo
  have l03 : ∀ k, (Value.slice a0 d.slots.length k0).ownBlock = some k → k < X3.heap.size := fun k e => (World.ownsRow.lt u0 k e).2
  have l13 : ∀ k, (Value.slice a1 d.mail.length k1).ownBlock = some k → k < X3.heap.size := fun k e => (World.ownsRow.lt u1 k e).2
  have l23 : ∀ k, (Value.slice a2 d.links.length k2).ownBlock = some k → k < X3.heap.size := fun k e => (World.ownsRow.lt u2 k e).2
  replace hO := hO.below hO.lt hb
  replace hR := hR.below hR.lt hb
  replace u0 := u0.below hb
  replace u1 := u1.below hb
  replace u2 := u2.below hb
  replace hB := hB.trans (hb.mono hB.size)
  have hsz := hb.size
  generalize hce3 : X3.heap.size = c3 at *
  clear hb hce3
  have y3 : w.heap.size + 1 < c3 := hlr
  clear hlr
  have d03 := u3.apart_of l03 (Nat.le_refl _)
  clear l03
  have d13 := u3.apart_of l13 (Nat.le_refl _)
  clear l13
  have d23 := u3.apart_of l23 (Nat.le_refl _)
  clear l23
  clear hsz
  obtain ⟨o0, o1, o2, o3, o4, o5, o6, o7, o8, o9, o10, o11, o12⟩ := id hO.at_
  have f8 := hO.fr 8
  obtain ⟨r0, r1, r2, r3, r4, r5, r6, r7, r8, r9, r10, r11, r12⟩ := id hR.at_
  have e0 := hR.fr 0
  have e1 := hR.fr 1
  have e2 := hR.fr 2
  have e3 := hR.fr 3
  have e4 := hR.fr 4
  have e5 := hR.fr 5
  have e6 := hR.fr 6
  have e7 := hR.fr 7
  have e8 := hR.fr 8
  have e9 := hR.fr 9
  have e10 := hR.fr 10
  have e11 := hR.fr 11
  have e12 := hR.fr 12
  have hlr := hR.lt
  delta Hid
  refine .inl ?_
  go_wp2_with fail
  exact bodyPost_ret (v := d.val ⟨a0, k0, a1, k1, a2, k2, a3, k3⟩) (by simp [results, Try.results56, go_sem, r0, r1, r2, r3, r4, r5, r6, r7, r8, r9, r10, r11, r12]) rfl ⟨⟨a0, k0, a1, k1, a2, k2, a3, k3⟩, rfl, ⟨(((((((((((((((u0.put (a := ⟨w.heap.size, 8, none⟩) (u0.away (.inl (by show w.heap.size < _; omega))) (.slice a3 d.wat.length k3)).put (u0.away (c := (w.heap.size + 1)) (.inl (by omega))) _).put (u0.away (c := (w.heap.size + 1)) (.inl (by omega))) _).put (u0.away (c := (w.heap.size + 1)) (.inl (by omega))) _).put (u0.away (c := (w.heap.size + 1)) (.inl (by omega))) _).put (u0.away (c := (w.heap.size + 1)) (.inl (by omega))) _).put (u0.away (c := (w.heap.size + 1)) (.inl (by omega))) _).put (u0.away (c := (w.heap.size + 1)) (.inl (by omega))) _).put (u0.away (c := (w.heap.size + 1)) (.inl (by omega))) _).put (u0.away (c := (w.heap.size + 1)) (.inl (by omega))) _).put (u0.away (c := (w.heap.size + 1)) (.inl (by omega))) _).put (u0.away (c := (w.heap.size + 1)) (.inl (by omega))) _).put (u0.away (c := (w.heap.size + 1)) (.inl (by omega))) _).put (u0.away (c := (w.heap.size + 1)) (.inl (by omega))) _).mono (by omega)), (((((((((((((((u1.put (a := ⟨w.heap.size, 8, none⟩) (u1.away (.inl (by show w.heap.size < _; omega))) (.slice a3 d.wat.length k3)).put (u1.away (c := (w.heap.size + 1)) (.inl (by omega))) _).put (u1.away (c := (w.heap.size + 1)) (.inl (by omega))) _).put (u1.away (c := (w.heap.size + 1)) (.inl (by omega))) _).put (u1.away (c := (w.heap.size + 1)) (.inl (by omega))) _).put (u1.away (c := (w.heap.size + 1)) (.inl (by omega))) _).put (u1.away (c := (w.heap.size + 1)) (.inl (by omega))) _).put (u1.away (c := (w.heap.size + 1)) (.inl (by omega))) _).put (u1.away (c := (w.heap.size + 1)) (.inl (by omega))) _).put (u1.away (c := (w.heap.size + 1)) (.inl (by omega))) _).put (u1.away (c := (w.heap.size + 1)) (.inl (by omega))) _).put (u1.away (c := (w.heap.size + 1)) (.inl (by omega))) _).put (u1.away (c := (w.heap.size + 1)) (.inl (by omega))) _).put (u1.away (c := (w.heap.size + 1)) (.inl (by omega))) _).mono (by omega)), (((((((((((((((u2.put (a := ⟨w.heap.size, 8, none⟩) (u2.away (.inl (by show w.heap.size < _; omega))) (.slice a3 d.wat.length k3)).put (u2.away (c := (w.heap.size + 1)) (.inl (by omega))) _).put (u2.away (c := (w.heap.size + 1)) (.inl (by omega))) _).put (u2.away (c := (w.heap.size + 1)) (.inl (by omega))) _).put (u2.away (c := (w.heap.size + 1)) (.inl (by omega))) _).put (u2.away (c := (w.heap.size + 1)) (.inl (by omega))) _).put (u2.away (c := (w.heap.size + 1)) (.inl (by omega))) _).put (u2.away (c := (w.heap.size + 1)) (.inl (by omega))) _).put (u2.away (c := (w.heap.size + 1)) (.inl (by omega))) _).put (u2.away (c := (w.heap.size + 1)) (.inl (by omega))) _).put (u2.away (c := (w.heap.size + 1)) (.inl (by omega))) _).put (u2.away (c := (w.heap.size + 1)) (.inl (by omega))) _).put (u2.away (c := (w.heap.size + 1)) (.inl (by omega))) _).put (u2.away (c := (w.heap.size + 1)) (.inl (by omega))) _).mono (by omega)), (((((((((((((((u3.put (a := ⟨w.heap.size, 8, none⟩) (u3.away (.inl (by show w.heap.size < _; omega))) (.slice a3 d.wat.length k3)).put (u3.away (c := (w.heap.size + 1)) (.inl (by omega))) _).put (u3.away (c := (w.heap.size + 1)) (.inl (by omega))) _).put (u3.away (c := (w.heap.size + 1)) (.inl (by omega))) _).put (u3.away (c := (w.heap.size + 1)) (.inl (by omega))) _).put (u3.away (c := (w.heap.size + 1)) (.inl (by omega))) _).put (u3.away (c := (w.heap.size + 1)) (.inl (by omega))) _).put (u3.away (c := (w.heap.size + 1)) (.inl (by omega))) _).put (u3.away (c := (w.heap.size + 1)) (.inl (by omega))) _).put (u3.away (c := (w.heap.size + 1)) (.inl (by omega))) _).put (u3.away (c := (w.heap.size + 1)) (.inl (by omega))) _).put (u3.away (c := (w.heap.size + 1)) (.inl (by omega))) _).put (u3.away (c := (w.heap.size + 1)) (.inl (by omega))) _).put (u3.away (c := (w.heap.size + 1)) (.inl (by omega))) _).mono (by omega)), d01, d02, d03, d12, d13, d23⟩, ((((((((((((((hB.setCell (by show w.heap.size ≤ w.heap.size; omega) _).setCell (by show w.heap.size ≤ (w.heap.size + 1); omega) _).setCell (by show w.heap.size ≤ (w.heap.size + 1); omega) _).setCell (by show w.heap.size ≤ (w.heap.size + 1); omega) _).setCell (by show w.heap.size ≤ (w.heap.size + 1); omega) _).setCell (by show w.heap.size ≤ (w.heap.size + 1); omega) _).setCell (by show w.heap.size ≤ (w.heap.size + 1); omega) _).setCell (by show w.heap.size ≤ (w.heap.size + 1); omega) _).setCell (by show w.heap.size ≤ (w.heap.size + 1); omega) _).setCell (by show w.heap.size ≤ (w.heap.size + 1); omega) _).setCell (by show w.heap.size ≤ (w.heap.size + 1); omega) _).setCell (by show w.heap.size ≤ (w.heap.size + 1); omega) _).setCell (by show w.heap.size ≤ (w.heap.size + 1); omega) _).setCell (by show w.heap.size ≤ (w.heap.size + 1); omega) _)⟩
end Go.Proofs.Ytefaocjcfecipaa
