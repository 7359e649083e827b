/-
  What impl's readParts answers over this translation by each of the fourteen kinds: the parts as the words behind the first tell them, and whether they are just those; nothing that was there turns.
-/
import Derived.Test.YtekmjgkjpdhedaaGreatDoorOpReadP
import Derived.Test.YtekmjgkjpdhedaaGreatDoorOpReadPB
import Derived.Test.YtekmjgkjpdhedaaGreatDoorOpReadPC
import Derived.Test.YtekmjgkjpdhedaaGreatDoorOpReadPD
import Derived.Test.YtekmjgkjpdhedaaGreatDoorOpReadRR
namespace Go.Proofs.YtekmjgkjpdhedaaGreatDoor
open Go.ChangeShapes Go.WideShapes Go.ChangeAt Go.RowKit Go.Joins
set_option maxRecDepth 20000 in
theorem readRow_1 (ws : List (List UInt8)) (hws : ∀ x ∈ ws, x.length ≤ 1048576) : ∃ r s t a b ok, RR 1 ws r s t a b ok ∧ RowC 1 ws r s t a b ok := by
  obtain ⟨n0, q0, d0, C0⟩ := decR (ws.getD 0 []) (getD_len hws 0)
  obtain ⟨n3, n4, q1, d1, C1⟩ := valR (ws.getD 1 []) (getD_len hws 1)
  refine ⟨n0, 0, 0, n3, n4, _, rr_1001 (by decide) (by decide) (by decide) (by decide) d0 d1, fun x y z B ao w hao hT hE hB hy => ?_⟩
  rw [row_1]
  refine (readParts_1001 rfl rfl rfl rfl rfl rfl rfl rfl B ws.length ao hao en_readR (fun w hT hE => readR_any _ _ _ C0 _ _ _ _ _ _ w hT hE) en_readV (fun w hT hE => readV_any _ _ _ _ C1 _ _ _ _ _ _ w hT hE) w hT hE hB (fun h => hy 0 h) (fun h => hy 1 h)).mono ?_
  rintro e w' ⟨⟨o, rfl, ho, c0, c1, c2, c3, c4, c5, rfl⟩, hb⟩
  exact ⟨⟨c0, c1, c2, c3, c4, c5, rfl, fun h => by have h' := ho h; simpa using h'⟩, hb⟩
set_option maxRecDepth 20000 in
theorem readRow_2 (ws : List (List UInt8)) (hws : ∀ x ∈ ws, x.length ≤ 1048576) : ∃ r s t a b ok, RR 2 ws r s t a b ok ∧ RowC 2 ws r s t a b ok := by
  obtain ⟨n0, q0, d0, C0⟩ := decR (ws.getD 0 []) (getD_len hws 0)
  obtain ⟨n1, q1, d1, C1⟩ := decR (ws.getD 1 []) (getD_len hws 1)
  refine ⟨n0, n1, 0, 0, 0, _, rr_1100 (by decide) (by decide) (by decide) (by decide) d0 d1, fun x y z B ao w hao hT hE hB hy => ?_⟩
  rw [row_2]
  refine (readParts_1100 rfl rfl rfl rfl rfl rfl rfl rfl B ws.length ao hao en_readR (fun w hT hE => readR_any _ _ _ C0 _ _ _ _ _ _ w hT hE) en_readS (fun w hT hE => readS_any _ _ _ C1 _ _ _ _ _ _ w hT hE) w hT hE hB (fun h => hy 0 h) (fun h => hy 1 h)).mono ?_
  rintro e w' ⟨⟨o, rfl, ho, c0, c1, c2, c3, c4, c5, rfl⟩, hb⟩
  exact ⟨⟨c0, c1, c2, c3, c4, c5, rfl, fun h => by have h' := ho h; simpa using h'⟩, hb⟩
set_option maxRecDepth 20000 in
theorem readRow_3 (ws : List (List UInt8)) (hws : ∀ x ∈ ws, x.length ≤ 1048576) : ∃ r s t a b ok, RR 3 ws r s t a b ok ∧ RowC 3 ws r s t a b ok := by
  obtain ⟨n0, q0, d0, C0⟩ := decR (ws.getD 0 []) (getD_len hws 0)
  obtain ⟨n1, q1, d1, C1⟩ := decR (ws.getD 1 []) (getD_len hws 1)
  refine ⟨n0, n1, 0, 0, 0, _, rr_1100 (by decide) (by decide) (by decide) (by decide) d0 d1, fun x y z B ao w hao hT hE hB hy => ?_⟩
  rw [row_3]
  refine (readParts_1100 rfl rfl rfl rfl rfl rfl rfl rfl B ws.length ao hao en_readR (fun w hT hE => readR_any _ _ _ C0 _ _ _ _ _ _ w hT hE) en_readS (fun w hT hE => readS_any _ _ _ C1 _ _ _ _ _ _ w hT hE) w hT hE hB (fun h => hy 0 h) (fun h => hy 1 h)).mono ?_
  rintro e w' ⟨⟨o, rfl, ho, c0, c1, c2, c3, c4, c5, rfl⟩, hb⟩
  exact ⟨⟨c0, c1, c2, c3, c4, c5, rfl, fun h => by have h' := ho h; simpa using h'⟩, hb⟩
set_option maxRecDepth 20000 in
theorem readRow_4 (ws : List (List UInt8)) (hws : ∀ x ∈ ws, x.length ≤ 1048576) : ∃ r s t a b ok, RR 4 ws r s t a b ok ∧ RowC 4 ws r s t a b ok := by
  obtain ⟨n0, q0, d0, C0⟩ := decR (ws.getD 0 []) (getD_len hws 0)
  refine ⟨n0, 0, 0, 0, 0, _, rr_1000 (by decide) (by decide) (by decide) (by decide) d0, fun x y z B ao w hao hT hE hB hy => ?_⟩
  rw [row_4]
  refine (readParts_1000 rfl rfl rfl rfl rfl rfl rfl rfl B ws.length ao hao en_readR (fun w hT hE => readR_any _ _ _ C0 _ _ _ _ _ _ w hT hE) w hT hE hB (fun h => hy 0 h)).mono ?_
  rintro e w' ⟨⟨o, rfl, ho, c0, c1, c2, c3, c4, c5, rfl⟩, hb⟩
  exact ⟨⟨c0, c1, c2, c3, c4, c5, rfl, fun h => by have h' := ho h; simpa using h'⟩, hb⟩
set_option maxRecDepth 20000 in
theorem readRow_5 (ws : List (List UInt8)) (hws : ∀ x ∈ ws, x.length ≤ 1048576) : ∃ r s t a b ok, RR 5 ws r s t a b ok ∧ RowC 5 ws r s t a b ok := by
  obtain ⟨n0, q0, d0, C0⟩ := decR (ws.getD 0 []) (getD_len hws 0)
  obtain ⟨n2, q1, d1, C1⟩ := decR (ws.getD 1 []) (getD_len hws 1)
  refine ⟨n0, 0, n2, 0, 0, _, rr_1010 (by decide) (by decide) (by decide) (by decide) d0 d1, fun x y z B ao w hao hT hE hB hy => ?_⟩
  rw [row_5]
  refine (readParts_1010 rfl rfl rfl rfl rfl rfl rfl rfl B ws.length ao hao en_readR (fun w hT hE => readR_any _ _ _ C0 _ _ _ _ _ _ w hT hE) en_readTo (fun w hT hE => readTo_any _ _ _ C1 _ _ _ _ _ _ w hT hE) w hT hE hB (fun h => hy 0 h) (fun h => hy 1 h)).mono ?_
  rintro e w' ⟨⟨o, rfl, ho, c0, c1, c2, c3, c4, c5, rfl⟩, hb⟩
  exact ⟨⟨c0, c1, c2, c3, c4, c5, rfl, fun h => by have h' := ho h; simpa using h'⟩, hb⟩
set_option maxRecDepth 20000 in
theorem readRow_6 (ws : List (List UInt8)) (hws : ∀ x ∈ ws, x.length ≤ 1048576) : ∃ r s t a b ok, RR 6 ws r s t a b ok ∧ RowC 6 ws r s t a b ok := by
  obtain ⟨n0, q0, d0, C0⟩ := decR (ws.getD 0 []) (getD_len hws 0)
  obtain ⟨n1, q1, d1, C1⟩ := decR (ws.getD 1 []) (getD_len hws 1)
  refine ⟨n0, n1, 0, 0, 0, _, rr_1100 (by decide) (by decide) (by decide) (by decide) d0 d1, fun x y z B ao w hao hT hE hB hy => ?_⟩
  rw [row_6]
  refine (readParts_1100 rfl rfl rfl rfl rfl rfl rfl rfl B ws.length ao hao en_readR (fun w hT hE => readR_any _ _ _ C0 _ _ _ _ _ _ w hT hE) en_readS (fun w hT hE => readS_any _ _ _ C1 _ _ _ _ _ _ w hT hE) w hT hE hB (fun h => hy 0 h) (fun h => hy 1 h)).mono ?_
  rintro e w' ⟨⟨o, rfl, ho, c0, c1, c2, c3, c4, c5, rfl⟩, hb⟩
  exact ⟨⟨c0, c1, c2, c3, c4, c5, rfl, fun h => by have h' := ho h; simpa using h'⟩, hb⟩
set_option maxRecDepth 20000 in
theorem readRow_7 (ws : List (List UInt8)) (hws : ∀ x ∈ ws, x.length ≤ 1048576) : ∃ r s t a b ok, RR 7 ws r s t a b ok ∧ RowC 7 ws r s t a b ok := by
  obtain ⟨n0, q0, d0, C0⟩ := decR (ws.getD 0 []) (getD_len hws 0)
  obtain ⟨n1, q1, d1, C1⟩ := decR (ws.getD 1 []) (getD_len hws 1)
  refine ⟨n0, n1, 0, 0, 0, _, rr_1100 (by decide) (by decide) (by decide) (by decide) d0 d1, fun x y z B ao w hao hT hE hB hy => ?_⟩
  rw [row_7]
  refine (readParts_1100 rfl rfl rfl rfl rfl rfl rfl rfl B ws.length ao hao en_readR (fun w hT hE => readR_any _ _ _ C0 _ _ _ _ _ _ w hT hE) en_readS (fun w hT hE => readS_any _ _ _ C1 _ _ _ _ _ _ w hT hE) w hT hE hB (fun h => hy 0 h) (fun h => hy 1 h)).mono ?_
  rintro e w' ⟨⟨o, rfl, ho, c0, c1, c2, c3, c4, c5, rfl⟩, hb⟩
  exact ⟨⟨c0, c1, c2, c3, c4, c5, rfl, fun h => by have h' := ho h; simpa using h'⟩, hb⟩
set_option maxRecDepth 20000 in
theorem readRow_8 (ws : List (List UInt8)) (hws : ∀ x ∈ ws, x.length ≤ 1048576) : ∃ r s t a b ok, RR 8 ws r s t a b ok ∧ RowC 8 ws r s t a b ok := by
  obtain ⟨n0, q0, d0, C0⟩ := decR (ws.getD 0 []) (getD_len hws 0)
  obtain ⟨n1, q1, d1, C1⟩ := decR (ws.getD 1 []) (getD_len hws 1)
  obtain ⟨n2, q2, d2, C2⟩ := decR (ws.getD 2 []) (getD_len hws 2)
  obtain ⟨n3, n4, q3, d3, C3⟩ := valR (ws.getD 3 []) (getD_len hws 3)
  refine ⟨n0, n1, n2, n3, n4, _, rr_1111 (by decide) (by decide) (by decide) (by decide) d0 d1 d2 d3, fun x y z B ao w hao hT hE hB hy => ?_⟩
  rw [row_8]
  refine (readParts_1111 rfl rfl rfl rfl rfl rfl rfl rfl B ws.length ao hao en_readR (fun w hT hE => readR_any _ _ _ C0 _ _ _ _ _ _ w hT hE) en_readS (fun w hT hE => readS_any _ _ _ C1 _ _ _ _ _ _ w hT hE) en_readTo (fun w hT hE => readTo_any _ _ _ C2 _ _ _ _ _ _ w hT hE) en_readV (fun w hT hE => readV_any _ _ _ _ C3 _ _ _ _ _ _ w hT hE) w hT hE hB (fun h => hy 0 h) (fun h => hy 1 h) (fun h => hy 2 h) (fun h => hy 3 h)).mono ?_
  rintro e w' ⟨⟨o, rfl, ho, c0, c1, c2, c3, c4, c5, rfl⟩, hb⟩
  exact ⟨⟨c0, c1, c2, c3, c4, c5, rfl, fun h => by have h' := ho h; simpa using h'⟩, hb⟩
set_option maxRecDepth 20000 in
theorem readRow_9 (ws : List (List UInt8)) (hws : ∀ x ∈ ws, x.length ≤ 1048576) : ∃ r s t a b ok, RR 9 ws r s t a b ok ∧ RowC 9 ws r s t a b ok := by
  obtain ⟨n2, q0, d0, C0⟩ := decR (ws.getD 0 []) (getD_len hws 0)
  refine ⟨0, 0, n2, 0, 0, _, rr_0010 (by decide) (by decide) (by decide) (by decide) d0, fun x y z B ao w hao hT hE hB hy => ?_⟩
  rw [row_9]
  refine (readParts_0010 rfl rfl rfl rfl rfl rfl rfl rfl B ws.length ao hao en_readTo (fun w hT hE => readTo_any _ _ _ C0 _ _ _ _ _ _ w hT hE) w hT hE hB (fun h => hy 0 h)).mono ?_
  rintro e w' ⟨⟨o, rfl, ho, c0, c1, c2, c3, c4, c5, rfl⟩, hb⟩
  exact ⟨⟨c0, c1, c2, c3, c4, c5, rfl, fun h => by have h' := ho h; simpa using h'⟩, hb⟩
set_option maxRecDepth 20000 in
theorem readRow_10 (ws : List (List UInt8)) (hws : ∀ x ∈ ws, x.length ≤ 1048576) : ∃ r s t a b ok, RR 10 ws r s t a b ok ∧ RowC 10 ws r s t a b ok := by
  obtain ⟨n0, q0, d0, C0⟩ := decR (ws.getD 0 []) (getD_len hws 0)
  obtain ⟨n2, q1, d1, C1⟩ := decR (ws.getD 1 []) (getD_len hws 1)
  obtain ⟨n3, n4, q2, d2, C2⟩ := valR (ws.getD 2 []) (getD_len hws 2)
  refine ⟨n0, 0, n2, n3, n4, _, rr_1011 (by decide) (by decide) (by decide) (by decide) d0 d1 d2, fun x y z B ao w hao hT hE hB hy => ?_⟩
  rw [row_10]
  refine (readParts_1011 rfl rfl rfl rfl rfl rfl rfl rfl B ws.length ao hao en_readR (fun w hT hE => readR_any _ _ _ C0 _ _ _ _ _ _ w hT hE) en_readTo (fun w hT hE => readTo_any _ _ _ C1 _ _ _ _ _ _ w hT hE) en_readV (fun w hT hE => readV_any _ _ _ _ C2 _ _ _ _ _ _ w hT hE) w hT hE hB (fun h => hy 0 h) (fun h => hy 1 h) (fun h => hy 2 h)).mono ?_
  rintro e w' ⟨⟨o, rfl, ho, c0, c1, c2, c3, c4, c5, rfl⟩, hb⟩
  exact ⟨⟨c0, c1, c2, c3, c4, c5, rfl, fun h => by have h' := ho h; simpa using h'⟩, hb⟩
set_option maxRecDepth 20000 in
theorem readRow_11 (ws : List (List UInt8)) (hws : ∀ x ∈ ws, x.length ≤ 1048576) : ∃ r s t a b ok, RR 11 ws r s t a b ok ∧ RowC 11 ws r s t a b ok := by
  obtain ⟨n0, q0, d0, C0⟩ := decR (ws.getD 0 []) (getD_len hws 0)
  refine ⟨n0, 0, 0, 0, 0, _, rr_1000 (by decide) (by decide) (by decide) (by decide) d0, fun x y z B ao w hao hT hE hB hy => ?_⟩
  rw [row_11]
  refine (readParts_1000 rfl rfl rfl rfl rfl rfl rfl rfl B ws.length ao hao en_readR (fun w hT hE => readR_any _ _ _ C0 _ _ _ _ _ _ w hT hE) w hT hE hB (fun h => hy 0 h)).mono ?_
  rintro e w' ⟨⟨o, rfl, ho, c0, c1, c2, c3, c4, c5, rfl⟩, hb⟩
  exact ⟨⟨c0, c1, c2, c3, c4, c5, rfl, fun h => by have h' := ho h; simpa using h'⟩, hb⟩
set_option maxRecDepth 20000 in
theorem readRow_12 (ws : List (List UInt8)) (hws : ∀ x ∈ ws, x.length ≤ 1048576) : ∃ r s t a b ok, RR 12 ws r s t a b ok ∧ RowC 12 ws r s t a b ok := by
  obtain ⟨n0, q0, d0, C0⟩ := decR (ws.getD 0 []) (getD_len hws 0)
  refine ⟨n0, 0, 0, 0, 0, _, rr_1000 (by decide) (by decide) (by decide) (by decide) d0, fun x y z B ao w hao hT hE hB hy => ?_⟩
  rw [row_12]
  refine (readParts_1000 rfl rfl rfl rfl rfl rfl rfl rfl B ws.length ao hao en_readR (fun w hT hE => readR_any _ _ _ C0 _ _ _ _ _ _ w hT hE) w hT hE hB (fun h => hy 0 h)).mono ?_
  rintro e w' ⟨⟨o, rfl, ho, c0, c1, c2, c3, c4, c5, rfl⟩, hb⟩
  exact ⟨⟨c0, c1, c2, c3, c4, c5, rfl, fun h => by have h' := ho h; simpa using h'⟩, hb⟩
set_option maxRecDepth 20000 in
theorem readRow_13 (ws : List (List UInt8)) (hws : ∀ x ∈ ws, x.length ≤ 1048576) : ∃ r s t a b ok, RR 13 ws r s t a b ok ∧ RowC 13 ws r s t a b ok := by
  obtain ⟨n3, n4, q0, d0, C0⟩ := valR (ws.getD 0 []) (getD_len hws 0)
  refine ⟨0, 0, 0, n3, n4, _, rr_0001 (by decide) (by decide) (by decide) (by decide) d0, fun x y z B ao w hao hT hE hB hy => ?_⟩
  rw [row_13]
  refine (readParts_0001 rfl rfl rfl rfl rfl rfl rfl rfl B ws.length ao hao en_readV (fun w hT hE => readV_any _ _ _ _ C0 _ _ _ _ _ _ w hT hE) w hT hE hB (fun h => hy 0 h)).mono ?_
  rintro e w' ⟨⟨o, rfl, ho, c0, c1, c2, c3, c4, c5, rfl⟩, hb⟩
  exact ⟨⟨c0, c1, c2, c3, c4, c5, rfl, fun h => by have h' := ho h; simpa using h'⟩, hb⟩
set_option maxRecDepth 20000 in
theorem readRow_14 (ws : List (List UInt8)) (hws : ∀ x ∈ ws, x.length ≤ 1048576) : ∃ r s t a b ok, RR 14 ws r s t a b ok ∧ RowC 14 ws r s t a b ok := by
  obtain ⟨n0, q0, d0, C0⟩ := decR (ws.getD 0 []) (getD_len hws 0)
  refine ⟨n0, 0, 0, 0, 0, _, rr_1000 (by decide) (by decide) (by decide) (by decide) d0, fun x y z B ao w hao hT hE hB hy => ?_⟩
  rw [row_14]
  refine (readParts_1000 rfl rfl rfl rfl rfl rfl rfl rfl B ws.length ao hao en_readR (fun w hT hE => readR_any _ _ _ C0 _ _ _ _ _ _ w hT hE) w hT hE hB (fun h => hy 0 h)).mono ?_
  rintro e w' ⟨⟨o, rfl, ho, c0, c1, c2, c3, c4, c5, rfl⟩, hb⟩
  exact ⟨⟨c0, c1, c2, c3, c4, c5, rfl, fun h => by have h' := ho h; simpa using h'⟩, hb⟩
theorem readRow_any (k : Int) (h1 : 1 ≤ k) (h2 : k ≤ 14) (ws : List (List UInt8)) (hws : ∀ x ∈ ws, x.length ≤ 1048576) : ∃ r s t a b ok, RR k ws r s t a b ok ∧ RowC k ws r s t a b ok := by
  rcases kinds14 (k := k) h1 h2 with rfl | rfl | rfl | rfl | rfl | rfl | rfl | rfl | rfl | rfl | rfl | rfl | rfl | rfl
  · exact readRow_1 ws hws
  · exact readRow_2 ws hws
  · exact readRow_3 ws hws
  · exact readRow_4 ws hws
  · exact readRow_5 ws hws
  · exact readRow_6 ws hws
  · exact readRow_7 ws hws
  · exact readRow_8 ws hws
  · exact readRow_9 ws hws
  · exact readRow_10 ws hws
  · exact readRow_11 ws hws
  · exact readRow_12 ws hws
  · exact readRow_13 ws hws
  · exact readRow_14 ws hws
end Go.Proofs.YtekmjgkjpdhedaaGreatDoor
