/-
  For every run, ok or not, and every kind, impl.RunTake answers as the specification's RunTake does, in lists of its own that a second call leaves as they are, and leaves the run as it is. No condition.
-/
import Derived.Test.YtefaocjcfecipaaTakeSS
import Derived.Test.YtefaocjcfecipaaRunSz
import Derived.Test.YtefaocjcfecipaaRunIn
import Derived.Test.YtefaocjcfecipaaFrame
import Derived.Deep.RegionHeld3
namespace Go.Proofs.Ytefaocjcfecipaa
open Go.ChangeShapes Go.WideShapes Go.ChangeAt Go.RowKit Go.Joins
theorem RunBoxF.sameB {w w' : World} {b : Nat} {d : RunD} {p : RunP} (h : RunBoxF w b d p) (e : w'.heap[b]? = w.heap[b]?) (hz : w.heap.size ≤ w'.heap.size) : RunBoxF w' b d p :=
  ⟨h.at_.same e, fun i => (World.frozen?_of_block (w := w) e).trans (h.fr i), Nat.lt_of_lt_of_le h.lt hz⟩
theorem ValBoxF.sameB {w w' : World} {b : Nat} {x : Int × Int} (h : ValBoxF w b x) (e : w'.heap[b]? = w.heap[b]?) (hz : w.heap.size ≤ w'.heap.size) : ValBoxF w' b x :=
  ⟨⟨(World.cell?_of_block (w := w) e).trans h.at_.1, (World.cell?_of_block (w := w) e).trans h.at_.2⟩, fun i => (World.frozen?_of_block (w := w) e).trans (h.fr i), Nat.lt_of_lt_of_le h.lt hz⟩
theorem OwnsV.from_ {w w' : World} {B : Nat} {v : Value} {L : List (Int × Int)} (h : OwnsV w B v L) (e : ∀ k, B ≤ k → k < w.heap.size → w'.heap[k]? = w.heap[k]?) : OwnsV w' B v L := by
  have hlt := World.ownsRow.lt h
  obtain ⟨h1, h2⟩ := h
  refine ⟨h1, h2.imp id ?_⟩
  rintro ⟨g, cap, cur, rfl, hb, hh, hr⟩
  exact ⟨g, cap, cur, rfl, hb, (e g hb (hlt g rfl).2).trans hh, hr⟩
theorem Owns.from_ {w w' : World} {B : Nat} {v : Value} {L : List Int} (h : Owns w B v L) (e : ∀ k, B ≤ k → k < w.heap.size → w'.heap[k]? = w.heap[k]?) : Owns w' B v L := by
  have hlt := World.ownsRow.lt h
  obtain ⟨h1, h2⟩ := h
  refine ⟨h1, h2.imp id ?_⟩
  rintro ⟨g, cap, cur, rfl, hb, hh, hr⟩
  exact ⟨g, cap, cur, rfl, hb, (e g hb (hlt g rfl).2).trans hh, hr⟩
theorem OwnRun.from_ {w w' : World} {B : Nat} {d : RunD} {p : RunP} (h : OwnRun w B d p) (e : ∀ k, B ≤ k → k < w.heap.size → w'.heap[k]? = w.heap[k]?) : OwnRun w' B d p :=
  ⟨OwnsV.from_ h.o0 e, OwnsV.from_ h.o1 e, Owns.from_ h.o2 e, Owns.from_ h.o3 e, h.x01, h.x02, h.x03, h.x12, h.x13, h.x23⟩
/-- a run's lists lie in no block from b on -/
def Under (d : RunD) (p : RunP) (b : Nat) : Prop := ∀ k, b ≤ k → (d.v0 p).ownBlock ≠ some k ∧ (d.v1 p).ownBlock ≠ some k ∧ (d.v2 p).ownBlock ≠ some k ∧ (d.v3 p).ownBlock ≠ some k
theorem OwnRun.under {w : World} {B : Nat} {d : RunD} {p : RunP} (h : OwnRun w B d p) : Under d p w.heap.size := fun _ hk => h.not_box (.inr hk)
theorem takeD_short {d : RunD} (kind : Int) (h : d.Short) : (takeD d kind).Short := by
  unfold takeD
  split
  · refine ⟨h.s0, ?_, h.s2, h.s3⟩
    show (List.length (_ ++ _)) ≤ _
    rw [List.length_append, List.length_take, List.length_drop]
    have := h.s1; omega
  · exact ⟨by simp [runZ], by simp [runZ], by simp [runZ], by simp [runZ]⟩
namespace ExactRunTake
set_option maxRecDepth 20000 in
set_option maxHeartbeats 8000000 in
theorem walk (S : Nat) (d : RunD) (q : RunP) (kind : Int) (w : World) (hS : S ≤ w.heap.size) (n0 : d.slots.length ≤ 9223372036854775807) (n1 : d.mail.length ≤ 9223372036854775807) (n2 : d.links.length ≤ 9223372036854775807) (n3 : d.wat.length ≤ 9223372036854775807) (hM : RunMem S w d q) :
    Calls Try.prog 6 #[d.val q, .int .i64 kind] w fun e w' => e = .returned (.bool true) ∧ Below w.heap.size w w' := by
  have hB : Below w.heap.size w (w.alloc (.cells (d.cells q) 39)) := (Below.refl _ _).alloc (Nat.le_refl _) _
  have hA : RunBoxF (w.alloc (.cells (d.cells q) 39)) w.heap.size d q := RunBoxF.new w d q 39
  go_enter Try.func6, Try.ntmps6
  go_wp2_with fail
  generalize (w.alloc (.cells (d.cells q) 39)) = w0 at *
  refine (szRun_any d q _ n0 n1 n2 n3).mono ?_
  rintro e w1 ⟨⟨l, rfl, hl⟩, hb⟩
  clear n0 n1 n2 n3
  replace hA := hA.below hA.lt hb
  replace hB := hB.trans (hb.mono hB.size)
  clear hb
  rcases hl with rfl | ⟨hl0, hs⟩
  case inl =>
    go_wp2_with fail
    go_ret
    exact ⟨rfl, hB⟩
  have hln : ¬ l < 0 := by omega
  have hsD := takeD_short kind hs
  replace hs : Hid d.Short := hs
  have hsp : Hid (∀ (p : RunP) (W : World), d.links.length ≤ p.k2 → d.wat.length ≤ p.k3 → RunMem W.heap.size W d p → Calls Try.prog 19 #[d.val p, .int .i64 kind] W fun e w' => ∃ p, e = .returned (.tuple #[(takeD d kind).val p, .agg #[.int .i64 (takeV d kind).1, .int .i64 (takeV d kind).2], .bool (takeB d kind)]) ∧ OwnRun w' W.heap.size (takeD d kind) p ∧ Below W.heap.size W w') := fun p W h2 h3 hm => specRunTake_any W.heap.size d p kind W (Nat.le_refl _) hs.out h2 h3 hm
  have him : Hid (∀ (p : RunP) (W : World), d.links.length ≤ p.k2 → d.wat.length ≤ p.k3 → RunMem W.heap.size W d p → Calls Try.prog 20 #[d.val p, .int .i64 kind] W fun e w' => ∃ p, e = .returned (.tuple #[(takeD d kind).val p, .agg #[.int .i64 (takeV d kind).1, .int .i64 (takeV d kind).2], .bool (takeB d kind)]) ∧ OwnRun w' W.heap.size (takeD d kind) p ∧ Below W.heap.size W w') := fun p W h2 h3 hm => implRunTake_any W.heap.size d p kind W (Nat.le_refl _) hs.out h2 h3 hm
  generalize takeD d kind = D at *
  generalize takeV d kind = x at *
  generalize takeB d kind = bb at *
  replace hsD : Hid D.Short := hsD
  have hbe : (bb != bb) = false := by simp
  have hmk : 0 ≤ D.marks := by unfold RunD.marks; omega
  have hmk2 : D.marks ≤ 8388608 := by unfold RunD.marks; have := hsD.out.s0; have := hsD.out.s1; have := hsD.out.s2; have := hsD.out.s3; omega
  have hmX : 0 ≤ d.marks := by unfold RunD.marks; omega
  have hmX2 : d.marks ≤ 8388608 := by unfold RunD.marks; have := hs.out.s0; have := hs.out.s1; have := hs.out.s2; have := hs.out.s3; omega
  have hneg : ¬ 1 + D.marks < 0 := by omega
  have hnegX : ¬ 1 + d.marks < 0 := by omega
  have hme : (1 + D.marks != 1 + D.marks) = false := by simp
  replace hmk2 : Hid (D.marks ≤ 8388608) := hmk2
  replace hmX2 : Hid (d.marks ≤ 8388608) := hmX2
  replace hmk : Hid (0 ≤ D.marks) := hmk
  replace hmX : Hid (0 ≤ d.marks) := hmX
  have z_hA_1 := hA.lt
  obtain ⟨c0, c1, c2, c3, c4, c5, c6, c7, c8, c9, c10, c11, c12⟩ := id hA.at_
  go_wp2_with fail
  clear c0 c1 c2 c3 c4 c5 c6 c7 c8 c9 c10 c11 c12
  clear hln hl0
  refine (toRun_any S d q _ (Nat.le_trans hS hB.size) hs.out (hM.below (hB.mono hS))).mono ?_
  rintro e w2 ⟨p2, rfl, o2, k2, hb⟩
  have zz2 := hb.size
  replace hA := hA.below hA.lt hb
  replace hB := hB.trans (hb.mono hB.size)
  clear hb
  go_wp2_with fail
  refine (hsp.out p2 _ k2.1 k2.2 o2.mem).mono ?_
  rintro e w3 ⟨pW, rfl, oW, hb⟩
  have zz3 := hb.size
  replace hA := hA.below hA.lt hb
  replace hB := hB.trans (hb.mono hB.size)
  have mW := oW.mem
  clear hb o2 k2 oW
  have z_hA_3 := hA.lt
  obtain ⟨c0, c1, c2, c3, c4, c5, c6, c7, c8, c9, c10, c11, c12⟩ := id hA.at_
  go_wp2_with fail
  clear c0 c1 c2 c3 c4 c5 c6 c7 c8 c9 c10 c11 c12
  have rW : RunBoxF (w3.alloc (.cells (D.cells pW) 30)) w3.heap.size D pW := RunBoxF.new _ _ _ _
  have vW : ValBoxF ((w3.alloc (.cells (D.cells pW) 30)).alloc (.cells #[.int .i64 x.1, .int .i64 x.2] 24)) (w3.heap.size + 1) x := ValBoxF.new' _ _ _ _ (by simp)
  replace rW := rW.below (S := w3.heap.size + 1) (by omega) ((Below.refl _ _).alloc (by simp) (.cells #[.int .i64 x.1, .int .i64 x.2] 24))
  have hb : Below w3.heap.size w3 ((w3.alloc (.cells (D.cells pW) 30)).alloc (.cells #[.int .i64 x.1, .int .i64 x.2] 24)) := ((Below.refl _ _).alloc (Nat.le_refl _) _).alloc (by simp) _
  have zzb3 := hb.size
  replace hA := hA.below hA.lt hb
  replace mW := mW.below (hb.mono (by omega))
  replace hB := hB.trans (hb.mono hB.size)
  clear hb
  generalize he3 : w3.heap.size = bW at *
  generalize ((w3.alloc (.cells (D.cells pW) 30)).alloc (.cells #[.int .i64 x.1, .int .i64 x.2] 24)) = v3 at *
  clear he3
  have sW : bW ≤ v3.heap.size := by have := rW.lt; omega
  have zW : bW + 1 < v3.heap.size := vW.lt
  have zA : w.heap.size < bW := z_hA_3
  refine (toRun_any S d q _ (Nat.le_trans hS hB.size) hs.out (hM.below (hB.mono hS))).mono ?_
  rintro e w4 ⟨pX, rfl, oX, kX, hb⟩
  have zz4 := hb.size
  replace hA := hA.below hA.lt hb
  replace rW := rW.below rW.lt hb
  replace vW := vW.below vW.lt hb
  replace mW := mW.below (hb.mono (by omega))
  replace hB := hB.trans (hb.mono hB.size)
  clear hb
  go_wp2_with fail
  have rX : RunBoxF (w4.alloc (.cells (d.cells pX) 30)) w4.heap.size d pX := RunBoxF.new _ _ _ _
  have hb : Below w4.heap.size w4 (w4.alloc (.cells (d.cells pX) 30)) := (Below.refl _ _).alloc (Nat.le_refl _) _
  have zzb4 := hb.size
  have uX := oX.under
  replace hA := hA.below hA.lt hb
  replace rW := rW.below rW.lt hb
  replace vW := vW.below vW.lt hb
  replace oX := oX.below hb
  replace mW := mW.below (hb.mono (by omega))
  replace hB := hB.trans (hb.mono hB.size)
  clear hb
  generalize he4 : w4.heap.size = bX at *
  generalize (w4.alloc (.cells (d.cells pX) 30)) = v4 at *
  clear he4
  have zX := rX.lt
  refine (him.out pX _ kX.1 kX.2 oX.mem).mono ?_
  rintro e w5 ⟨pG, rfl, oG, hb⟩
  have zz5 := hb.size
  replace hA := hA.below hA.lt hb
  replace rW := rW.below rW.lt hb
  replace vW := vW.below vW.lt hb
  replace rX := rX.below rX.lt hb
  replace oX := oX.below hb
  replace mW := mW.below (hb.mono (by omega))
  replace hB := hB.trans (hb.mono hB.size)
  clear hb kX
  have uG := oG.under
  have z_hA_5 := hA.lt
  have z_rW_5 := rW.lt
  have z_vW_5 := vW.lt
  have z_rX_5 := rX.lt
  obtain ⟨q0, q1, q2, q3, q4, q5, q6, q7, q8, q9, q10, q11, q12⟩ := id rW.at_
  go_wp2_with fail
  clear q0 q1 q2 q3 q4 q5 q6 q7 q8 q9 q10 q11 q12
  have rG : RunBoxF (w5.alloc (.cells (D.cells pG) 30)) w5.heap.size D pG := RunBoxF.new _ _ _ _
  have vG : ValBoxF ((w5.alloc (.cells (D.cells pG) 30)).alloc (.cells #[.int .i64 x.1, .int .i64 x.2] 24)) (w5.heap.size + 1) x := ValBoxF.new' _ _ _ _ (by simp)
  replace rG := rG.below (S := w5.heap.size + 1) (by omega) ((Below.refl _ _).alloc (by simp) (.cells #[.int .i64 x.1, .int .i64 x.2] 24))
  have hb : Below w5.heap.size w5 ((w5.alloc (.cells (D.cells pG) 30)).alloc (.cells #[.int .i64 x.1, .int .i64 x.2] 24)) := ((Below.refl _ _).alloc (Nat.le_refl _) _).alloc (by simp) _
  have zzb5 := hb.size
  replace hA := hA.below hA.lt hb
  replace rW := rW.below rW.lt hb
  replace vW := vW.below vW.lt hb
  replace rX := rX.below rX.lt hb
  replace oX := oX.below hb
  replace oG := oG.below hb
  replace mW := mW.below (hb.mono (by omega))
  replace hB := hB.trans (hb.mono hB.size)
  clear hb
  generalize he5 : w5.heap.size = bG at *
  generalize ((w5.alloc (.cells (D.cells pG) 30)).alloc (.cells #[.int .i64 x.1, .int .i64 x.2] 24)) = v5 at *
  clear he5
  generalize hcG : v4.heap.size = cG at *
  generalize hcX : v3.heap.size = cX at *
  clear hcG hcX
  refine (eqRun_same v5.heap.size D pG pW _ (Nat.le_refl _) hsD.out oG.mem (mW.mono (by have := rW.lt; have := rG.lt; omega))).mono ?_
  rintro e w6 ⟨rfl, hb⟩
  have zze6 := hb.size
  replace hA := hA.below hA.lt hb
  replace rW := rW.below rW.lt hb
  replace vW := vW.below vW.lt hb
  replace rX := rX.below rX.lt hb
  replace rG := rG.below rG.lt hb
  replace vG := vG.below vG.lt hb
  replace oX := oX.below hb
  replace oG := oG.below hb
  replace mW := mW.below (hb.mono (by omega))
  replace hB := hB.trans (hb.mono hB.size)
  clear hb
  have z_hA_6 := hA.lt
  have z_rW_6 := rW.lt
  have z_vW_6 := vW.lt
  have z_rX_6 := rX.lt
  have z_rG_6 := rG.lt
  have z_vG_6 := vG.lt
  obtain ⟨g0, g1⟩ := id vG.at_
  obtain ⟨h0, h1⟩ := id vW.at_
  go_wp2_with fail
  clear g0 g1 h0 h1
  refine (eqVal_same x.1 x.2 _).mono ?_
  rintro e w7 ⟨rfl, hb⟩
  have zz7 := hb.size
  replace hA := hA.below hA.lt hb
  replace rW := rW.below rW.lt hb
  replace vW := vW.below vW.lt hb
  replace rX := rX.below rX.lt hb
  replace rG := rG.below rG.lt hb
  replace vG := vG.below vG.lt hb
  replace oX := oX.below hb
  replace oG := oG.below hb
  replace mW := mW.below (hb.mono (by omega))
  replace hB := hB.trans (hb.mono hB.size)
  clear hb
  have z_hA_7 := hA.lt
  have z_rW_7 := rW.lt
  have z_vW_7 := vW.lt
  have z_rX_7 := rX.lt
  have z_rG_7 := rG.lt
  have z_vG_7 := vG.lt
  go_wp2_with fail
  obtain ⟨c0, c1, c2, c3, c4, c5, c6, c7, c8, c9, c10, c11, c12⟩ := id hA.at_
  obtain ⟨t0, t1, t2, t3, t4, t5, t6, t7, t8, t9, t10, t11, t12⟩ := id rX.at_
  have hS7 : S ≤ w7.heap.size := Nat.le_trans hS hB.size
  have hM7 : RunMem S w7 d q := hM.below (hB.mono hS)
  have S7 : w7.cell? ⟨bX, 0, none⟩ = some (.int .i64 d.id) ∧ w7.cell? ⟨bX, 1, none⟩ = some (.int .i64 d.pl) ∧ w7.cell? ⟨bX, 2, none⟩ = some (.slice pX.a0 d.slots.length pX.k0) ∧ w7.cell? ⟨bX, 3, none⟩ = some (.int .i64 d.full) ∧ w7.cell? ⟨bX, 4, none⟩ = some (.slice pX.a1 d.mail.length pX.k1) ∧ w7.cell? ⟨bX, 5, none⟩ = some (.int .i64 d.st) ∧ w7.cell? ⟨bX, 6, none⟩ = some (.int .i64 d.due) ∧ w7.cell? ⟨bX, 7, none⟩ = some (.slice pX.a2 d.links.length pX.k2) ∧ w7.cell? ⟨bX, 8, none⟩ = some (.slice pX.a3 d.wat.length pX.k3) ∧ w7.cell? ⟨bX, 9, none⟩ = some (.bool d.trap) ∧ w7.cell? ⟨bX, 10, none⟩ = some (.int .i64 d.wk) ∧ w7.cell? ⟨bX, 11, none⟩ = some (.int .i64 d.wn) ∧ w7.cell? ⟨bX, 12, none⟩ = some (.int .i64 d.tu) ∧ w7.cell? ⟨w.heap.size, 0, none⟩ = some (.int .i64 d.id) ∧ w7.cell? ⟨w.heap.size, 1, none⟩ = some (.int .i64 d.pl) ∧ w7.cell? ⟨w.heap.size, 2, none⟩ = some (.slice q.a0 d.slots.length q.k0) ∧ w7.cell? ⟨w.heap.size, 3, none⟩ = some (.int .i64 d.full) ∧ w7.cell? ⟨w.heap.size, 4, none⟩ = some (.slice q.a1 d.mail.length q.k1) ∧ w7.cell? ⟨w.heap.size, 5, none⟩ = some (.int .i64 d.st) ∧ w7.cell? ⟨w.heap.size, 6, none⟩ = some (.int .i64 d.due) ∧ w7.cell? ⟨w.heap.size, 7, none⟩ = some (.slice q.a2 d.links.length q.k2) ∧ w7.cell? ⟨w.heap.size, 8, none⟩ = some (.slice q.a3 d.wat.length q.k3) ∧ w7.cell? ⟨w.heap.size, 9, none⟩ = some (.bool d.trap) ∧ w7.cell? ⟨w.heap.size, 10, none⟩ = some (.int .i64 d.wk) ∧ w7.cell? ⟨w.heap.size, 11, none⟩ = some (.int .i64 d.wn) ∧ w7.cell? ⟨w.heap.size, 12, none⟩ = some (.int .i64 d.tu) := ⟨rX.at_.c0, rX.at_.c1, rX.at_.c2, rX.at_.c3, rX.at_.c4, rX.at_.c5, rX.at_.c6, rX.at_.c7, rX.at_.c8, rX.at_.c9, rX.at_.c10, rX.at_.c11, rX.at_.c12, hA.at_.c0, hA.at_.c1, hA.at_.c2, hA.at_.c3, hA.at_.c4, hA.at_.c5, hA.at_.c6, hA.at_.c7, hA.at_.c8, hA.at_.c9, hA.at_.c10, hA.at_.c11, hA.at_.c12⟩
  replace S7 : Hid (w7.cell? ⟨bX, 0, none⟩ = some (.int .i64 d.id) ∧ w7.cell? ⟨bX, 1, none⟩ = some (.int .i64 d.pl) ∧ w7.cell? ⟨bX, 2, none⟩ = some (.slice pX.a0 d.slots.length pX.k0) ∧ w7.cell? ⟨bX, 3, none⟩ = some (.int .i64 d.full) ∧ w7.cell? ⟨bX, 4, none⟩ = some (.slice pX.a1 d.mail.length pX.k1) ∧ w7.cell? ⟨bX, 5, none⟩ = some (.int .i64 d.st) ∧ w7.cell? ⟨bX, 6, none⟩ = some (.int .i64 d.due) ∧ w7.cell? ⟨bX, 7, none⟩ = some (.slice pX.a2 d.links.length pX.k2) ∧ w7.cell? ⟨bX, 8, none⟩ = some (.slice pX.a3 d.wat.length pX.k3) ∧ w7.cell? ⟨bX, 9, none⟩ = some (.bool d.trap) ∧ w7.cell? ⟨bX, 10, none⟩ = some (.int .i64 d.wk) ∧ w7.cell? ⟨bX, 11, none⟩ = some (.int .i64 d.wn) ∧ w7.cell? ⟨bX, 12, none⟩ = some (.int .i64 d.tu) ∧ w7.cell? ⟨w.heap.size, 0, none⟩ = some (.int .i64 d.id) ∧ w7.cell? ⟨w.heap.size, 1, none⟩ = some (.int .i64 d.pl) ∧ w7.cell? ⟨w.heap.size, 2, none⟩ = some (.slice q.a0 d.slots.length q.k0) ∧ w7.cell? ⟨w.heap.size, 3, none⟩ = some (.int .i64 d.full) ∧ w7.cell? ⟨w.heap.size, 4, none⟩ = some (.slice q.a1 d.mail.length q.k1) ∧ w7.cell? ⟨w.heap.size, 5, none⟩ = some (.int .i64 d.st) ∧ w7.cell? ⟨w.heap.size, 6, none⟩ = some (.int .i64 d.due) ∧ w7.cell? ⟨w.heap.size, 7, none⟩ = some (.slice q.a2 d.links.length q.k2) ∧ w7.cell? ⟨w.heap.size, 8, none⟩ = some (.slice q.a3 d.wat.length q.k3) ∧ w7.cell? ⟨w.heap.size, 9, none⟩ = some (.bool d.trap) ∧ w7.cell? ⟨w.heap.size, 10, none⟩ = some (.int .i64 d.wk) ∧ w7.cell? ⟨w.heap.size, 11, none⟩ = some (.int .i64 d.wn) ∧ w7.cell? ⟨w.heap.size, 12, none⟩ = some (.int .i64 d.tu)) := S7
  go_region_held3 (fun w' => w'.cell? ⟨bX, 0, none⟩ = some (.int .i64 d.id) ∧ w'.cell? ⟨bX, 1, none⟩ = some (.int .i64 d.pl) ∧ w'.cell? ⟨bX, 2, none⟩ = some (.slice pX.a0 d.slots.length pX.k0) ∧ w'.cell? ⟨bX, 3, none⟩ = some (.int .i64 d.full) ∧ w'.cell? ⟨bX, 4, none⟩ = some (.slice pX.a1 d.mail.length pX.k1) ∧ w'.cell? ⟨bX, 5, none⟩ = some (.int .i64 d.st) ∧ w'.cell? ⟨bX, 6, none⟩ = some (.int .i64 d.due) ∧ w'.cell? ⟨bX, 7, none⟩ = some (.slice pX.a2 d.links.length pX.k2) ∧ w'.cell? ⟨bX, 8, none⟩ = some (.slice pX.a3 d.wat.length pX.k3) ∧ w'.cell? ⟨bX, 9, none⟩ = some (.bool d.trap) ∧ w'.cell? ⟨bX, 10, none⟩ = some (.int .i64 d.wk) ∧ w'.cell? ⟨bX, 11, none⟩ = some (.int .i64 d.wn) ∧ w'.cell? ⟨bX, 12, none⟩ = some (.int .i64 d.tu) ∧ w'.cell? ⟨w.heap.size, 0, none⟩ = some (.int .i64 d.id) ∧ w'.cell? ⟨w.heap.size, 1, none⟩ = some (.int .i64 d.pl) ∧ w'.cell? ⟨w.heap.size, 2, none⟩ = some (.slice q.a0 d.slots.length q.k0) ∧ w'.cell? ⟨w.heap.size, 3, none⟩ = some (.int .i64 d.full) ∧ w'.cell? ⟨w.heap.size, 4, none⟩ = some (.slice q.a1 d.mail.length q.k1) ∧ w'.cell? ⟨w.heap.size, 5, none⟩ = some (.int .i64 d.st) ∧ w'.cell? ⟨w.heap.size, 6, none⟩ = some (.int .i64 d.due) ∧ w'.cell? ⟨w.heap.size, 7, none⟩ = some (.slice q.a2 d.links.length q.k2) ∧ w'.cell? ⟨w.heap.size, 8, none⟩ = some (.slice q.a3 d.wat.length q.k3) ∧ w'.cell? ⟨w.heap.size, 9, none⟩ = some (.bool d.trap) ∧ w'.cell? ⟨w.heap.size, 10, none⟩ = some (.int .i64 d.wk) ∧ w'.cell? ⟨w.heap.size, 11, none⟩ = some (.int .i64 d.wn) ∧ w'.cell? ⟨w.heap.size, 12, none⟩ = some (.int .i64 d.tu)) (first | exact S9.out | exact S8.out | exact S7.out | go_keep) (first
    | (go_at_call 15; refine (toRun_any S d q _ ?_ ?_ ?_).mono ?_; exact hS7; exact hs.out; (first | exact hM7 | exact hM7.below (Below.refl _ _).drew); rintro e w8 ⟨p8, rfl, o8, k8, hb8⟩; have hb8' : Below w7.heap.size w7 w8 := ⟨hb8.os, hb8.tape, hb8.output, hb8.size, hb8.block⟩; have S8 : Hid (w8.cell? ⟨bX, 0, none⟩ = some (.int .i64 d.id) ∧ w8.cell? ⟨bX, 1, none⟩ = some (.int .i64 d.pl) ∧ w8.cell? ⟨bX, 2, none⟩ = some (.slice pX.a0 d.slots.length pX.k0) ∧ w8.cell? ⟨bX, 3, none⟩ = some (.int .i64 d.full) ∧ w8.cell? ⟨bX, 4, none⟩ = some (.slice pX.a1 d.mail.length pX.k1) ∧ w8.cell? ⟨bX, 5, none⟩ = some (.int .i64 d.st) ∧ w8.cell? ⟨bX, 6, none⟩ = some (.int .i64 d.due) ∧ w8.cell? ⟨bX, 7, none⟩ = some (.slice pX.a2 d.links.length pX.k2) ∧ w8.cell? ⟨bX, 8, none⟩ = some (.slice pX.a3 d.wat.length pX.k3) ∧ w8.cell? ⟨bX, 9, none⟩ = some (.bool d.trap) ∧ w8.cell? ⟨bX, 10, none⟩ = some (.int .i64 d.wk) ∧ w8.cell? ⟨bX, 11, none⟩ = some (.int .i64 d.wn) ∧ w8.cell? ⟨bX, 12, none⟩ = some (.int .i64 d.tu) ∧ w8.cell? ⟨w.heap.size, 0, none⟩ = some (.int .i64 d.id) ∧ w8.cell? ⟨w.heap.size, 1, none⟩ = some (.int .i64 d.pl) ∧ w8.cell? ⟨w.heap.size, 2, none⟩ = some (.slice q.a0 d.slots.length q.k0) ∧ w8.cell? ⟨w.heap.size, 3, none⟩ = some (.int .i64 d.full) ∧ w8.cell? ⟨w.heap.size, 4, none⟩ = some (.slice q.a1 d.mail.length q.k1) ∧ w8.cell? ⟨w.heap.size, 5, none⟩ = some (.int .i64 d.st) ∧ w8.cell? ⟨w.heap.size, 6, none⟩ = some (.int .i64 d.due) ∧ w8.cell? ⟨w.heap.size, 7, none⟩ = some (.slice q.a2 d.links.length q.k2) ∧ w8.cell? ⟨w.heap.size, 8, none⟩ = some (.slice q.a3 d.wat.length q.k3) ∧ w8.cell? ⟨w.heap.size, 9, none⟩ = some (.bool d.trap) ∧ w8.cell? ⟨w.heap.size, 10, none⟩ = some (.int .i64 d.wk) ∧ w8.cell? ⟨w.heap.size, 11, none⟩ = some (.int .i64 d.wn) ∧ w8.cell? ⟨w.heap.size, 12, none⟩ = some (.int .i64 d.tu)) := ⟨(rX.below rX.lt hb8').at_.c0, (rX.below rX.lt hb8').at_.c1, (rX.below rX.lt hb8').at_.c2, (rX.below rX.lt hb8').at_.c3, (rX.below rX.lt hb8').at_.c4, (rX.below rX.lt hb8').at_.c5, (rX.below rX.lt hb8').at_.c6, (rX.below rX.lt hb8').at_.c7, (rX.below rX.lt hb8').at_.c8, (rX.below rX.lt hb8').at_.c9, (rX.below rX.lt hb8').at_.c10, (rX.below rX.lt hb8').at_.c11, (rX.below rX.lt hb8').at_.c12, (hA.below hA.lt hb8').at_.c0, (hA.below hA.lt hb8').at_.c1, (hA.below hA.lt hb8').at_.c2, (hA.below hA.lt hb8').at_.c3, (hA.below hA.lt hb8').at_.c4, (hA.below hA.lt hb8').at_.c5, (hA.below hA.lt hb8').at_.c6, (hA.below hA.lt hb8').at_.c7, (hA.below hA.lt hb8').at_.c8, (hA.below hA.lt hb8').at_.c9, (hA.below hA.lt hb8').at_.c10, (hA.below hA.lt hb8').at_.c11, (hA.below hA.lt hb8').at_.c12⟩)
    | (go_at_call 16; refine (eqRun_same w8.heap.size d pX p8 _ ?_ ?_ ?_ ?_).mono ?_; exact Nat.le_refl _; exact hs.out; (first | exact (oX.below hb8').mem | exact (oX.below hb8').mem.below (Below.refl _ _).drew); (first | exact o8.mem | exact o8.mem.below (Below.refl _ _).drew); rintro e w9 ⟨rfl, hb9⟩; have hb9' : Below w8.heap.size w8 w9 := ⟨hb9.os, hb9.tape, hb9.output, hb9.size, hb9.block⟩; have S9 : Hid (w9.cell? ⟨bX, 0, none⟩ = some (.int .i64 d.id) ∧ w9.cell? ⟨bX, 1, none⟩ = some (.int .i64 d.pl) ∧ w9.cell? ⟨bX, 2, none⟩ = some (.slice pX.a0 d.slots.length pX.k0) ∧ w9.cell? ⟨bX, 3, none⟩ = some (.int .i64 d.full) ∧ w9.cell? ⟨bX, 4, none⟩ = some (.slice pX.a1 d.mail.length pX.k1) ∧ w9.cell? ⟨bX, 5, none⟩ = some (.int .i64 d.st) ∧ w9.cell? ⟨bX, 6, none⟩ = some (.int .i64 d.due) ∧ w9.cell? ⟨bX, 7, none⟩ = some (.slice pX.a2 d.links.length pX.k2) ∧ w9.cell? ⟨bX, 8, none⟩ = some (.slice pX.a3 d.wat.length pX.k3) ∧ w9.cell? ⟨bX, 9, none⟩ = some (.bool d.trap) ∧ w9.cell? ⟨bX, 10, none⟩ = some (.int .i64 d.wk) ∧ w9.cell? ⟨bX, 11, none⟩ = some (.int .i64 d.wn) ∧ w9.cell? ⟨bX, 12, none⟩ = some (.int .i64 d.tu) ∧ w9.cell? ⟨w.heap.size, 0, none⟩ = some (.int .i64 d.id) ∧ w9.cell? ⟨w.heap.size, 1, none⟩ = some (.int .i64 d.pl) ∧ w9.cell? ⟨w.heap.size, 2, none⟩ = some (.slice q.a0 d.slots.length q.k0) ∧ w9.cell? ⟨w.heap.size, 3, none⟩ = some (.int .i64 d.full) ∧ w9.cell? ⟨w.heap.size, 4, none⟩ = some (.slice q.a1 d.mail.length q.k1) ∧ w9.cell? ⟨w.heap.size, 5, none⟩ = some (.int .i64 d.st) ∧ w9.cell? ⟨w.heap.size, 6, none⟩ = some (.int .i64 d.due) ∧ w9.cell? ⟨w.heap.size, 7, none⟩ = some (.slice q.a2 d.links.length q.k2) ∧ w9.cell? ⟨w.heap.size, 8, none⟩ = some (.slice q.a3 d.wat.length q.k3) ∧ w9.cell? ⟨w.heap.size, 9, none⟩ = some (.bool d.trap) ∧ w9.cell? ⟨w.heap.size, 10, none⟩ = some (.int .i64 d.wk) ∧ w9.cell? ⟨w.heap.size, 11, none⟩ = some (.int .i64 d.wn) ∧ w9.cell? ⟨w.heap.size, 12, none⟩ = some (.int .i64 d.tu)) := ⟨((rX.below rX.lt hb8').below (rX.below rX.lt hb8').lt hb9').at_.c0, ((rX.below rX.lt hb8').below (rX.below rX.lt hb8').lt hb9').at_.c1, ((rX.below rX.lt hb8').below (rX.below rX.lt hb8').lt hb9').at_.c2, ((rX.below rX.lt hb8').below (rX.below rX.lt hb8').lt hb9').at_.c3, ((rX.below rX.lt hb8').below (rX.below rX.lt hb8').lt hb9').at_.c4, ((rX.below rX.lt hb8').below (rX.below rX.lt hb8').lt hb9').at_.c5, ((rX.below rX.lt hb8').below (rX.below rX.lt hb8').lt hb9').at_.c6, ((rX.below rX.lt hb8').below (rX.below rX.lt hb8').lt hb9').at_.c7, ((rX.below rX.lt hb8').below (rX.below rX.lt hb8').lt hb9').at_.c8, ((rX.below rX.lt hb8').below (rX.below rX.lt hb8').lt hb9').at_.c9, ((rX.below rX.lt hb8').below (rX.below rX.lt hb8').lt hb9').at_.c10, ((rX.below rX.lt hb8').below (rX.below rX.lt hb8').lt hb9').at_.c11, ((rX.below rX.lt hb8').below (rX.below rX.lt hb8').lt hb9').at_.c12, ((hA.below hA.lt hb8').below (hA.below hA.lt hb8').lt hb9').at_.c0, ((hA.below hA.lt hb8').below (hA.below hA.lt hb8').lt hb9').at_.c1, ((hA.below hA.lt hb8').below (hA.below hA.lt hb8').lt hb9').at_.c2, ((hA.below hA.lt hb8').below (hA.below hA.lt hb8').lt hb9').at_.c3, ((hA.below hA.lt hb8').below (hA.below hA.lt hb8').lt hb9').at_.c4, ((hA.below hA.lt hb8').below (hA.below hA.lt hb8').lt hb9').at_.c5, ((hA.below hA.lt hb8').below (hA.below hA.lt hb8').lt hb9').at_.c6, ((hA.below hA.lt hb8').below (hA.below hA.lt hb8').lt hb9').at_.c7, ((hA.below hA.lt hb8').below (hA.below hA.lt hb8').lt hb9').at_.c8, ((hA.below hA.lt hb8').below (hA.below hA.lt hb8').lt hb9').at_.c9, ((hA.below hA.lt hb8').below (hA.below hA.lt hb8').lt hb9').at_.c10, ((hA.below hA.lt hb8').below (hA.below hA.lt hb8').lt hb9').at_.c11, ((hA.below hA.lt hb8').below (hA.below hA.lt hb8').lt hb9').at_.c12⟩))
  have hb : Below w7.heap.size w7 w9 := hb8'.trans (hb9'.mono hb8'.size)
  have zz9 := hb.size
  clear c0 c1 c2 c3 c4 c5 c6 c7 c8 c9 c10 c11 c12 t0 t1 t2 t3 t4 t5 t6 t7 t8 t9 t10 t11 t12
  replace hA := hA.below hA.lt hb
  replace rW := rW.below rW.lt hb
  replace vW := vW.below vW.lt hb
  replace rX := rX.below rX.lt hb
  replace rG := rG.below rG.lt hb
  replace vG := vG.below vG.lt hb
  replace oX := oX.below hb
  replace oG := oG.below hb
  replace mW := mW.below (hb.mono (by omega))
  replace hB := hB.trans (hb.mono hB.size)
  clear hb hb8 hb8' hb9 hb9' S7 S8 S9 o8 k8 hM7 hS7
  have z_hA_9 := hA.lt
  have z_rW_9 := rW.lt
  have z_vW_9 := vW.lt
  have z_rX_9 := rX.lt
  have z_rG_9 := rG.lt
  have z_vG_9 := vG.lt
  obtain ⟨t0, t1, t2, t3, t4, t5, t6, t7, t8, t9, t10, t11, t12⟩ := id rX.at_
  go_step
  go_wp2_with fail
  clear t0 t1 t2 t3 t4 t5 t6 t7 t8 t9 t10 t11 t12
  refine (markRun_any cX d pX _ (by omega) hs.out oX).mono ?_
  rintro e w10 ⟨rfl, oXm, hbm, kb⟩
  have zz10 : w9.heap.size ≤ w10.heap.size := hbm.size
  replace hA := hA.below (by omega) hbm
  replace rW := rW.below (by omega) hbm
  replace vW := vW.below (by omega) hbm
  replace mW := mW.below (hbm.mono (by omega))
  replace hB := hB.trans (hbm.mono (by omega))
  replace rX := rX.sameB (kb _ rX.lt (uX _ (by omega)).1 (uX _ (by omega)).2.1 (uX _ (by omega)).2.2.1 (uX _ (by omega)).2.2.2) zz10
  replace rG := rG.sameB (kb _ rG.lt (uX _ (by omega)).1 (uX _ (by omega)).2.1 (uX _ (by omega)).2.2.1 (uX _ (by omega)).2.2.2) zz10
  replace vG := vG.sameB (kb _ vG.lt (uX _ (by omega)).1 (uX _ (by omega)).2.1 (uX _ (by omega)).2.2.1 (uX _ (by omega)).2.2.2) zz10
  replace oG := OwnRun.from_ oG (fun k h1 h2 => kb k h2 (uX k (by omega)).1 (uX k (by omega)).2.1 (uX k (by omega)).2.2.1 (uX k (by omega)).2.2.2)
  clear kb hbm oXm oX uX rX
  have z_hA_10 := hA.lt
  have z_rW_10 := rW.lt
  have z_vW_10 := vW.lt
  have z_rG_10 := rG.lt
  have z_vG_10 := vG.lt
  obtain ⟨u0, u1, u2, u3, u4, u5, u6, u7, u8, u9, u10, u11, u12⟩ := id rG.at_
  obtain ⟨q0, q1, q2, q3, q4, q5, q6, q7, q8, q9, q10, q11, q12⟩ := id rW.at_
  go_wp2_with fail
  clear u0 u1 u2 u3 u4 u5 u6 u7 u8 u9 u10 u11 u12 q0 q1 q2 q3 q4 q5 q6 q7 q8 q9 q10 q11 q12
  refine (eqRun_same w10.heap.size D pG pW _ (Nat.le_refl _) hsD.out oG.mem (mW.mono (by have := rW.lt; have := rG.lt; omega))).mono ?_
  rintro e w11 ⟨rfl, hb⟩
  have zze11 := hb.size
  replace hA := hA.below hA.lt hb
  replace rW := rW.below rW.lt hb
  replace vW := vW.below vW.lt hb
  replace rG := rG.below rG.lt hb
  replace vG := vG.below vG.lt hb
  replace oG := oG.below hb
  replace mW := mW.below (hb.mono (by omega))
  replace hB := hB.trans (hb.mono hB.size)
  clear hb
  have z_hA_11 := hA.lt
  have z_rW_11 := rW.lt
  have z_vW_11 := vW.lt
  have z_rG_11 := rG.lt
  have z_vG_11 := vG.lt
  obtain ⟨g0, g1⟩ := id vG.at_
  obtain ⟨h0, h1⟩ := id vW.at_
  go_wp2_with fail
  clear g0 g1 h0 h1
  refine (eqVal_same x.1 x.2 _).mono ?_
  rintro e w12 ⟨rfl, hb⟩
  have zz12 := hb.size
  replace hA := hA.below hA.lt hb
  replace rW := rW.below rW.lt hb
  replace vW := vW.below vW.lt hb
  replace rG := rG.below rG.lt hb
  replace vG := vG.below vG.lt hb
  replace oG := oG.below hb
  replace mW := mW.below (hb.mono (by omega))
  replace hB := hB.trans (hb.mono hB.size)
  clear hb
  have z_hA_12 := hA.lt
  have z_rW_12 := rW.lt
  have z_vW_12 := vW.lt
  have z_rG_12 := rG.lt
  have z_vG_12 := vG.lt
  obtain ⟨u0, u1, u2, u3, u4, u5, u6, u7, u8, u9, u10, u11, u12⟩ := id rG.at_
  go_wp2_with fail
  clear u0 u1 u2 u3 u4 u5 u6 u7 u8 u9 u10 u11 u12
  refine (markRun_any cG D pG _ (by omega) hsD.out oG).mono ?_
  rintro e w13 ⟨rfl, oM, hbm, kb⟩
  have zz13 : w12.heap.size ≤ w13.heap.size := hbm.size
  replace hA := hA.below (by omega) hbm
  replace rW := rW.below (by omega) hbm
  replace vW := vW.below (by omega) hbm
  replace mW := mW.below (hbm.mono (by omega))
  replace hB := hB.trans (hbm.mono (by omega))
  replace rG := rG.sameB (kb _ rG.lt (uG _ (by omega)).1 (uG _ (by omega)).2.1 (uG _ (by omega)).2.2.1 (uG _ (by omega)).2.2.2) zz13
  clear kb hbm oG uG vG
  have z_hA_13 := hA.lt
  have z_rW_13 := rW.lt
  have z_vW_13 := vW.lt
  have z_rG_13 := rG.lt
  obtain ⟨u0, u1, u2, u3, u4, u5, u6, u7, u8, u9, u10, u11, u12⟩ := id rG.at_
  go_wp2_with fail
  clear u0 u1 u2 u3 u4 u5 u6 u7 u8 u9 u10 u11 u12
  refine (heldRun_any w13.heap.size D pG _ (Nat.le_refl _) hsD.out (by have := oM.mem; exact this)).mono ?_
  rintro e w14 ⟨rfl, hb⟩
  have zz14 := hb.size
  replace hA := hA.below hA.lt hb
  replace rW := rW.below rW.lt hb
  replace vW := vW.below vW.lt hb
  replace rG := rG.below rG.lt hb
  replace oM := oM.below hb
  replace mW := mW.below (hb.mono (by omega))
  replace hB := hB.trans (hb.mono hB.size)
  clear hb
  have z_hA_14 := hA.lt
  have z_rW_14 := rW.lt
  have z_vW_14 := vW.lt
  have z_rG_14 := rG.lt
  obtain ⟨c0, c1, c2, c3, c4, c5, c6, c7, c8, c9, c10, c11, c12⟩ := id hA.at_
  go_wp2_with fail
  clear c0 c1 c2 c3 c4 c5 c6 c7 c8 c9 c10 c11 c12
  refine (toRun_any S d q _ (Nat.le_trans hS hB.size) hs.out (hM.below (hB.mono hS))).mono ?_
  rintro e w15 ⟨p15, rfl, o15, k15, hb⟩
  have zz15 := hb.size
  replace hA := hA.below hA.lt hb
  replace rW := rW.below rW.lt hb
  replace vW := vW.below vW.lt hb
  replace rG := rG.below rG.lt hb
  replace oM := oM.below hb
  replace mW := mW.below (hb.mono (by omega))
  replace hB := hB.trans (hb.mono hB.size)
  clear hb
  go_wp2_with fail
  refine (him.out p15 _ k15.1 k15.2 o15.mem).mono ?_
  rintro e w16 ⟨pH, rfl, oH, hb⟩
  have zz16 := hb.size
  replace hA := hA.below hA.lt hb
  replace rW := rW.below rW.lt hb
  replace vW := vW.below vW.lt hb
  replace rG := rG.below rG.lt hb
  replace oM := oM.below hb
  replace mW := mW.below (hb.mono (by omega))
  replace hB := hB.trans (hb.mono hB.size)
  clear hb k15 o15
  have z_hA_16 := hA.lt
  have z_rW_16 := rW.lt
  have z_vW_16 := vW.lt
  have z_rG_16 := rG.lt
  obtain ⟨q0, q1, q2, q3, q4, q5, q6, q7, q8, q9, q10, q11, q12⟩ := id rW.at_
  go_wp2_with fail
  clear q0 q1 q2 q3 q4 q5 q6 q7 q8 q9 q10 q11 q12
  have rH : RunBoxF (w16.alloc (.cells (D.cells pH) 30)) w16.heap.size D pH := RunBoxF.new _ _ _ _
  have vH : ValBoxF ((w16.alloc (.cells (D.cells pH) 30)).alloc (.cells #[.int .i64 x.1, .int .i64 x.2] 24)) (w16.heap.size + 1) x := ValBoxF.new' _ _ _ _ (by simp)
  replace rH := rH.below (S := w16.heap.size + 1) (by omega) ((Below.refl _ _).alloc (by simp) (.cells #[.int .i64 x.1, .int .i64 x.2] 24))
  have hb : Below w16.heap.size w16 ((w16.alloc (.cells (D.cells pH) 30)).alloc (.cells #[.int .i64 x.1, .int .i64 x.2] 24)) := ((Below.refl _ _).alloc (Nat.le_refl _) _).alloc (by simp) _
  have zzb16 := hb.size
  replace hA := hA.below hA.lt hb
  replace rW := rW.below rW.lt hb
  replace vW := vW.below vW.lt hb
  replace rG := rG.below rG.lt hb
  replace oM := oM.below hb
  replace oH := oH.below hb
  replace mW := mW.below (hb.mono (by omega))
  replace hB := hB.trans (hb.mono hB.size)
  clear hb
  generalize he16 : w16.heap.size = bH at *
  generalize ((w16.alloc (.cells (D.cells pH) 30)).alloc (.cells #[.int .i64 x.1, .int .i64 x.2] 24)) = v16 at *
  clear he16
  refine (eqRun_same v16.heap.size D pH pW _ (Nat.le_refl _) hsD.out oH.mem (mW.mono (by have := rW.lt; have := rH.lt; omega))).mono ?_
  rintro e w17 ⟨rfl, hb⟩
  have zze17 := hb.size
  replace hA := hA.below hA.lt hb
  replace rW := rW.below rW.lt hb
  replace vW := vW.below vW.lt hb
  replace rG := rG.below rG.lt hb
  replace rH := rH.below rH.lt hb
  replace vH := vH.below vH.lt hb
  replace oM := oM.below hb
  replace oH := oH.below hb
  replace mW := mW.below (hb.mono (by omega))
  replace hB := hB.trans (hb.mono hB.size)
  clear hb
  have z_hA_17 := hA.lt
  have z_rW_17 := rW.lt
  have z_vW_17 := vW.lt
  have z_rG_17 := rG.lt
  have z_rH_17 := rH.lt
  have z_vH_17 := vH.lt
  obtain ⟨g0, g1⟩ := id vH.at_
  obtain ⟨h0, h1⟩ := id vW.at_
  go_wp2_with fail
  clear g0 g1 h0 h1
  refine (eqVal_same x.1 x.2 _).mono ?_
  rintro e w18 ⟨rfl, hb⟩
  have zz18 := hb.size
  replace hA := hA.below hA.lt hb
  replace rW := rW.below rW.lt hb
  replace vW := vW.below vW.lt hb
  replace rG := rG.below rG.lt hb
  replace rH := rH.below rH.lt hb
  replace vH := vH.below vH.lt hb
  replace oM := oM.below hb
  replace oH := oH.below hb
  replace mW := mW.below (hb.mono (by omega))
  replace hB := hB.trans (hb.mono hB.size)
  clear hb
  have z_hA_18 := hA.lt
  have z_rW_18 := rW.lt
  have z_vW_18 := vW.lt
  have z_rG_18 := rG.lt
  have z_rH_18 := rH.lt
  have z_vH_18 := vH.lt
  obtain ⟨u0, u1, u2, u3, u4, u5, u6, u7, u8, u9, u10, u11, u12⟩ := id rG.at_
  go_wp2_with fail
  clear u0 u1 u2 u3 u4 u5 u6 u7 u8 u9 u10 u11 u12
  refine (heldRun_any w18.heap.size D pG _ (Nat.le_refl _) hsD.out (by have := oM.mem; exact this)).mono ?_
  rintro e w19 ⟨rfl, hb⟩
  replace hB := hB.trans (hb.mono hB.size)
  go_wp2_with fail
  go_ret
  exact ⟨rfl, hB⟩

set_option maxRecDepth 100000 in
theorem lifted (os : Os) (started : os.Started) (H : Type) (enc : TypeId × Value → H) :
    ReturnsInHanded {} Try.checked os 6 .any (Rows.fnExactRunTakeSpec.pre6 enc Try.prog Try.f6 Rows.fnExactRunTakeRow.domain false) (Rows.fnExactRunTakeSpec.post enc Try.prog Try.f6 false true false false) := by
  refine returnsInHanded_of_change (C := Try.checked) own started (by kernel_rfl) Try.func6
    (ChangeSpec.witness6 (enc := enc) (C := Try.checked) false ⟨#[], #[.agg #[.int .i64 0, .int .i64 0, .slice none 0 0, .int .i64 0, .slice none 0 0, .int .i64 0, .int .i64 0, .slice none 0 0, .slice none 0 0, .bool false, .int .i64 0, .int .i64 0, .int .i64 0], .int .i64 0], []⟩ 8 (by kernel_rfl) (by kernel_rfl) (by kernel_rfl) (by kernel_rfl)) ?_
  intro W base args ds gs before hval0 hW hcnd _
  have hval : ∀ (j : Nat) t v, Try.f6.params[j]? = some t → args[j]? = some v → Value.okWide Try.prog W .any base t v := hval0
  have hW' := hW
  obtain ⟨p, q, hA0, hV, rfl, hfz, hnd⟩ := hW
  have hA : DataW.TrodAll enc Try.prog W 0 (fun _ => true) true Try.f6.params.toList args.toList ds p := hA0
  rw [Try.params6] at hA hval
  obtain ⟨v0, vs0, d0, ds0, p0, q0, hargs, rfl, rfl, h0, r0⟩ := trodAll_cons hA
  obtain ⟨v1, vs1, d1, ds1, p1, q1, rfl, rfl, rfl, h1, r1⟩ := trodAll_cons r0
  obtain ⟨rfl, rfl, rfl⟩ := trodAll_nil r1
  obtain rfl : args = #[v0, v1] := by cases args; simp_all
  obtain ⟨rfl, rfl⟩ := trodVars_none hV
  have k0 := h0
  have lt0 : ∀ x ∈ p0, x.block < W.heap.size := by obtain ⟨m, hm⟩ := k0; exact DataW.trod_lt m _ _ _ hm
  obtain ⟨D0, Q0, rfl, m0, n00, n01, n02, n03⟩ := run_in (hval 0 39 v0 rfl rfl) h0
  obtain ⟨a1, rfl, rfl, rfl, wa1⟩ := open_int Try.underlying3 (hval 1 3 v1 rfl rfl) h1
  clear hA0 hval0
  refine (walk W.heap.size D0 Q0 a1 W (Nat.le_refl _) n00 n01 n02 n03 m0).mono fun e W' ⟨he, bel⟩ => ?_
  subst he
  exact ⟨_, rfl, _, _, _, [], _, [], hW', trodAll_mk1 (shut_bool Try.underlying4 _), (trodAll_cons_mk (Below.trod laidOut (by kernel_rfl) (of_decide_eq_true (by kernel_rfl)) k0 bel lt0) (trodAll_cons_mk (shut_int Try.underlying3 wa1) trodAll_mk0)), rfl, bel.frame _, fun h => by cases h⟩

theorem over : Rows.fnExactRunTakeRow.holds Try.pinned (OpenSpec.ofChange Rows.fnExactRunTakeSpec) :=
  OpenClaim.holds_of_wide 6 Try.f6 rfl rfl rfl rfl rfl rfl rfl ⟨rfl, rfl, rfl, rfl, rfl⟩ rfl rfl rfl rfl rfl (by kernel_rfl) Try.func6 (by kernel_rfl)
    (of_decide_eq_true (by kernel_rfl)) (by unfold Func.isWrapper; first | (rw [if_pos (by decide +kernel)]; kernel_rfl) | (rw [if_neg (by decide +kernel)]; exact ⟨rfl, rfl⟩))
    (fun os started H enc _ => lifted os started H enc)
end ExactRunTake

/-- the given statement -/
theorem exactRunTake_holds : Rows.FnExactRunTakeSaid := ExactRunTake.over
#print axioms exactRunTake_holds
end Go.Proofs.Ytefaocjcfecipaa
