/-
  What CodeFull answers at any argument, apart from any program. No condition.
  spec.OpUses over this translation: the slots that an ok step reads, in a row of their own; nothing that was there turns.
  impl.waysFrom over this translation: the ways out of a place of ok steps, in a row of their own; nothing that was there turns.
  Rows of numbers over this translation, of any length: what spec.l11Among, slices.Contains, laws.eqIntS, markIntS and heldIntS answer on them.
  A row of bits in memory, over this translation. No condition.
  spec.l3Bit, l3Has, l3With, l3Both, l3Fills and l3Merge over this translation.
  What CodeSafe answers at any argument, apart from any program. No condition.
  spec.l3From over this translation: the ways out of a place are merged, first To, then the next place; nothing else turns.
  spec.l3Full and spec.CodeFull over this translation: what is full ahead of each step, in a row of its own; nothing that was there turns.
  spec.CodeSafe over this translation: whether steps are safe; nothing that was there turns.
-/
import Derived.Test.YtekmjgkjpdhedaaGreatDoorCodeAt
import Derived.Test.YtekmjgkjpdhedaaGreatDoorOpSpec
import Derived.Test.YtekmjgkjpdhedaaGreatDoorOpForm
import Derived.OwnWalk
import Derived.Laws.OwnMore
import Derived.Test.YtekmjgkjpdhedaaGreatDoorWalks
import Derived.Test.YtekmjgkjpdhedaaGreatDoorFull
import Derived.Test.YtekmjgkjpdhedaaGreatDoorBut
import Derived.Test.YtekmjgkjpdhedaaGreatDoorCodeOkS
import Derived.Deep.LoopGhost
import Derived.Deep.RegionWith
import Derived.BigRegion
namespace Go.Proofs.YtekmjgkjpdhedaaGreatDoor
def FullOf (C : List OpV) (L : List Int) : Prop := (codeB C = true ∧ IsFull C L) ∨ (codeB C = false ∧ L = [])
theorem fullOf_one {C : List OpV} {L M : List Int} (h : FullOf C L) (k : FullOf C M) : L = M := by
  rcases h with ⟨h, a⟩ | ⟨h, rfl⟩
  · rcases k with ⟨_, b⟩ | ⟨k, _⟩
    · exact full_one a b
    · rw [h] at k; cases k
  · rcases k with ⟨k, _⟩ | ⟨_, rfl⟩
    · rw [h] at k; cases k
    · rfl
theorem fullOf_len {C : List OpV} {L : List Int} (h : FullOf C L) : L.length ≤ C.length := by
  rcases h with ⟨_, a⟩ | ⟨_, rfl⟩
  · rw [a.1.1.1]; exact Nat.le_refl _
  · simp
end Go.Proofs.YtekmjgkjpdhedaaGreatDoor
namespace Go.Proofs.YtekmjgkjpdhedaaGreatDoor
open Go.ChangeShapes Go.WideShapes Go.ChangeAt Go.RowKit Go.Joins
/-- which slots a step reads -/
def usesL (k r s : Int) : List Int := if k = 2 then [s] else if k = 3 ∨ k = 6 then [r, s] else if k = 10 ∨ k = 11 ∨ k = 12 ∨ k = 14 then [r] else []
def usesOf (k r s t vk vn : Int) : List Int := if opB k r s t vk vn = true then usesL k r s else []
theorem usesOf_bad {k r s t vk vn : Int} (h : opB k r s t vk vn = false) : usesOf k r s t vk vn = [] := by rw [usesOf, if_neg (by rw [h]; decide)]
theorem usesOf_ok {k r s t vk vn : Int} (h : opB k r s t vk vn = true) : usesOf k r s t vk vn = usesL k r s := by rw [usesOf, if_pos h]
/-- a row of numbers, new since w -/
def NewRow (w : World) (L : List Int) (e : Ending) (w' : World) : Prop :=
  ∃ b, e = .returned (.slice (some ⟨b, 0, none⟩) L.length L.length) ∧ w.heap.size ≤ b ∧ b < w'.heap.size ∧ (∀ i, i < L.length → w'.cell? ⟨b, i, none⟩ = some (.int .i64 (L.getD i 0))) ∧ Below w.heap.size w w'
set_option maxHeartbeats 4000000 in
theorem l2Uses_any (k r s t vk vn : Int) (w : World) (h1 : 1 ≤ k) (h2 : k ≤ 14) :
    Calls Tryz.prog 38 #[.agg #[.int .i64 k, .int .i64 r, .int .i64 s, .int .i64 t, .int .i64 vk, .int .i64 vn]] w fun e w' => NewRow w (usesL k r s) e w' := by
  rcases kinds14 h1 h2 with rfl | rfl | rfl | rfl | rfl | rfl | rfl | rfl | rfl | rfl | rfl | rfl | rfl | rfl <;>
  · go_enter Tryz.func38, Tryz.ntmps38
    go_wp2_with fail
    go_ret
    refine ⟨_, rfl, ?_, ?_, ?_, ?_⟩
    · simp
    · simp
    · intro i hi
      have h3 : i = 0 ∨ i = 1 ∨ 2 ≤ i := (by omega)
      rcases h3 with rfl | rfl | h3
      · first | (simp [usesL] at hi; done) | (simp [usesL, go_sem]; done)
      · first | (simp [usesL] at hi; done) | (simp [usesL, go_sem]; done)
      · simp [usesL] at hi <;> omega
    · exact ((Below.refl _ _).alloc (Nat.le_refl _) _).alloc (by simp) _
end Go.Proofs.YtekmjgkjpdhedaaGreatDoor
namespace Go.Proofs.YtekmjgkjpdhedaaGreatDoor
open Go.ChangeShapes Go.WideShapes Go.ChangeAt Go.RowKit Go.Joins
def endsB (k : Int) : Bool := k == 9 || k == 14
set_option maxHeartbeats 1000000 in
theorem goesOrEnds_any (x : OpV) (w : World) : Calls Tryz.prog 63 #[x.val] w fun e w' => e = .returned (.bool (endsB x.k)) ∧ Below w.heap.size w w' := by
  by_cases h9 : x.k = 9
  · have e : Hid (endsB x.k = true) := by show endsB x.k = true; simp [endsB, h9]
    go_enter Tryz.func63, Tryz.ntmps63
    go_wp2_with fail
    go_ret
    exact ⟨by rw [e.out]; rfl, (Below.refl _ _).alloc (Nat.le_refl _) _⟩
  · have e9 : (x.k == 9) = false := by simp [h9]
    go_enter Tryz.func63, Tryz.ntmps63
    go_wp2_with fail
    go_ret
    exact ⟨by simp [endsB, h9], (Below.refl _ _).alloc (Nat.le_refl _) _⟩
theorem slotBit_any (r : Int) (w : World) (h0 : 0 ≤ r) (h3 : r ≤ 3) : Calls Tryz.prog 103 #[.int .i64 r] w fun e w' => e = .returned (.int .i64 (bitOf r)) ∧ w' = w := by
  have h : r = 0 ∨ r = 1 ∨ r = 2 ∨ r = 3 := by omega
  rcases h with rfl | rfl | rfl | rfl <;>
  · go_enter Tryz.func103, Tryz.ntmps103
    go_wp2_with fail
    go_ret
    exact ⟨rfl, rfl⟩
def fillV (x : OpV) : Int := if fillsB x.k = true then bitOf x.r else 0
set_option maxHeartbeats 2000000 in
theorem fills_any (x : OpV) (w : World) (h1 : 1 ≤ x.k) (h2 : x.k ≤ 14) (h0 : 0 ≤ x.r) (h3 : x.r ≤ 3) : Calls Tryz.prog 69 #[x.val] w fun e w' => e = .returned (.int .i64 (fillV x)) ∧ Below w.heap.size w w' := by
  obtain ⟨k, r, s, t, a, b⟩ := x
  dsimp only at h0 h1 h2 h3
  rcases kinds14 h1 h2 with rfl | rfl | rfl | rfl | rfl | rfl | rfl | rfl | rfl | rfl | rfl | rfl | rfl | rfl
  all_goals
    go_enter Tryz.func69, Tryz.ntmps69
    go_wp2_with (go_at_call 103; refine (slotBit_any _ _ h0 h3).mono ?_; rintro e w1 ⟨rfl, rfl⟩)
    go_ret
    exact ⟨rfl, (Below.refl _ _).alloc (Nat.le_refl _) _⟩
theorem or_i64 {x y : Int} (hx : Bd x) (h0 : 0 ≤ x) (hy : 0 ≤ y) (hy2 : y ≤ 15) : bits .or .i64 x y = orB x y := by
  have key : ∀ i j : Fin 17, 0 ≤ (i.val : Int) - 1 → 0 ≤ (j.val : Int) - 1 → bits .or .i64 ((i.val : Int) - 1) ((j.val : Int) - 1) = orB ((i.val : Int) - 1) ((j.val : Int) - 1) := by decide +kernel
  obtain ⟨i, rfl⟩ := bd_fin hx
  obtain ⟨j, rfl⟩ := bd_fin (x := y) ⟨by omega, hy2⟩
  exact key i j h0 hy
theorem and_i64 {x y : Int} (hx : Bd x) (hy : 0 ≤ y) (hy2 : y ≤ 15) : bits .and .i64 x y = meet x y := by
  have key : ∀ i j : Fin 17, 0 ≤ (j.val : Int) - 1 → bits .and .i64 ((i.val : Int) - 1) ((j.val : Int) - 1) = meet ((i.val : Int) - 1) ((j.val : Int) - 1) := by decide +kernel
  obtain ⟨i, rfl⟩ := bd_fin hx
  obtain ⟨j, rfl⟩ := bd_fin (x := y) ⟨by omega, hy2⟩
  exact key i j hy
theorem on_or (o : OpV) {x : Int} (hx : Bd x) (h0 : 0 ≤ x) : bits .or .i64 x (fillV o) = onB o x := by
  have hb := bit_bd o.r
  have e : orB x 0 = x := by
    have key : ∀ i : Fin 17, 0 ≤ (i.val : Int) - 1 → orB ((i.val : Int) - 1) 0 = (i.val : Int) - 1 := by decide +kernel
    obtain ⟨i, rfl⟩ := bd_fin hx
    exact key i h0
  unfold fillV onB
  split
  · exact or_i64 hx h0 hb.1 hb.2
  · rw [or_i64 hx h0 (by decide) (by decide), e]
def wayCells (L : List (Nat × Int)) : List Value := L.flatMap fun p => [.int .i64 (p.1 : Int), .int .i64 p.2]
/-- ways in a row of one's own -/
def OwnWays (w : World) (L : List (Nat × Int)) (e : Ending) (w' : World) : Prop :=
  ∃ v, e = .returned v ∧ w'.ownsRow w.heap.size 66 2 v L.length (wayCells L) ∧ Below w.heap.size w w'
theorem info_way : ∃ i, Tryz.prog.info? 66 = some i ∧ i.zero = some (.agg #[.int .i64 0, .int .i64 0]) ∧ i.size = 2 ∧ i.bytes = 16 :=
  ⟨(Tryz.prog.info? 66).get (by kernel_rfl), (Option.some_get _).symm, by kernel_rfl, by kernel_rfl, by kernel_rfl⟩
theorem own_monoW {B B' : Nat} {e : TypeId} {sz : Nat} {v : Value} {n : Nat} {xs : List Value} {w : World} (h : w.ownsRow B e sz v n xs) (hb : B' ≤ B) : w.ownsRow B' e sz v n xs :=
  ⟨h.1, h.2.imp id fun ⟨g, cap, cur, h1, h2, h3⟩ => ⟨g, cap, cur, h1, Nat.le_trans hb h2, h3⟩⟩
set_option maxRecDepth 20000 in
set_option maxHeartbeats 4000000 in
theorem ways_any (C : List OpV) (ao : Option Addr) (cap i : Nat) (full : Int) (w : World) (hC : codeB C = true) (h : CodeAt w ao C) (hi : i < C.length) (hf : Bd full) (hf0 : 0 ≤ full) :
    Calls Tryz.prog 43 #[.slice ao C.length cap, .int .i64 i, .int .i64 full] w fun e w' => OwnWays w (waysL C[i] i C.length full) e w' := by
  obtain ⟨hw, hl, hok⟩ := codeB_well hC
  rcases h with rfl | ⟨b, o, rfl, hlt, hs⟩
  · exact absurd hi (by simp)
  have oi := opIs_of (hok i hi)
  have ht := hw.2 i hi
  have s := hs i hi
  obtain ⟨x, hx0⟩ : ∃ x, x = C[i] := ⟨_, rfl⟩
  rw [← hx0] at s oi ht ⊢
  clear hx0 hs
  obtain ⟨c0, c1, c2, c3, c4, c5⟩ := s
  obtain ⟨inf, i1, i2, i3, i4⟩ := info_way
  go_enter Tryz.func43, Tryz.ntmps43
  go_wp2_with fail
  refine (goesOrEnds_any x _).mono ?_
  rintro e w1 ⟨rfl, hb1⟩
  obtain ⟨hc1, _⟩ := bcell hb1
  have d0 : w1.cell? ⟨w.heap.size, 0, none⟩ = some (.int .i64 x.k) := by rw [hc1 _ _ (by simp)]; simp [go_sem]
  have d1 : w1.cell? ⟨w.heap.size, 1, none⟩ = some (.int .i64 x.r) := by rw [hc1 _ _ (by simp)]; simp [go_sem]
  have d2 : w1.cell? ⟨w.heap.size, 2, none⟩ = some (.int .i64 x.s) := by rw [hc1 _ _ (by simp)]; simp [go_sem]
  have d3 : w1.cell? ⟨w.heap.size, 3, none⟩ = some (.int .i64 x.t) := by rw [hc1 _ _ (by simp)]; simp [go_sem]
  have d4 : w1.cell? ⟨w.heap.size, 4, none⟩ = some (.int .i64 x.a) := by rw [hc1 _ _ (by simp)]; simp [go_sem]
  have d5 : w1.cell? ⟨w.heap.size, 5, none⟩ = some (.int .i64 x.b) := by rw [hc1 _ _ (by simp)]; simp [go_sem]
  have hz1 := hb1.size
  simp at hz1
  have hB1 : Below w.heap.size w w1 := ((Below.refl _ _).alloc (Nat.le_refl _) _).trans (hb1.mono (by simp))
  clear hc1 hb1 c0 c1 c2 c3 c4 c5
  cases he : endsB x.k with
  | true =>
    by_cases h9 : x.k = 9
    · have e8 : (x.k == 8) = false := by simp [h9]
      have e9 : (x.k == 9) = true := by simp [h9]
      have hL : Hid (waysL x i C.length full = [(x.t.toNat, full)]) := by show waysL x i C.length full = [(x.t.toNat, full)]; simp [waysL, nextW, toW, h9]
      go_wp2_with (refine wpList_append_own _ rfl (.tmp 39) (.tmp 44) 67 rfl w1.heap.size 66 inf (.agg #[.int .i64 0, .int .i64 0]) 2 16 Tryz.underlying67 i1 i2 i3 i4 rfl (by decide) (.slice none 0 0) 0 [] rfl ⟨rfl, .inl ⟨rfl, rfl⟩⟩ ⟨w1.heap.size, 0, none⟩ 1 1 [.int .i64 x.t, .int .i64 full] rfl rfl (by intro q u hq; match q, hq with | 0, hq => simp at hq; subst hq; simp [Addr.add, go_sem] | 1, hq => simp at hq; subst hq; simp [Addr.add, go_sem] | q + 2, hq => simp at hq) (by simp [Value.oneCell']) (by decide) (by decide) (by simp <;> omega) ?_; intro y w9 ho hg _)
      have hB9 : Below w.heap.size w w9 := (hB1.alloc (by omega) _).grown hg (by simp <;> omega) (by intro k hk; cases hk)
      replace ho : w9.ownsRow w1.heap.size 66 2 y 1 (wayCells [(x.t.toNat, full)]) := by simpa [wayCells, Int.toNat_of_nonneg ht.1] using ho
      go_wp2_with fail
      go_ret
      exact ⟨_, rfl, by rw [hL.out]; exact own_monoW ho (by omega), hB9⟩
    have e14 : x.k = 14 := by simp [endsB, h9] at he; exact he
    have e8 : (x.k == 8) = false := by simp [e14]
    have e9 : (x.k == 9) = false := by simp [e14]
    have e10 : (x.k == 10) = false := by simp [e14]
    have e5 : (x.k == 5) = false := by simp [e14]
    have hk : Hid (x.k = 14) := e14
    clear e14
    have hL : Hid (waysL x i C.length full = []) := by show waysL x i C.length full = []; simp [waysL, nextW, toW, hk.out]
    go_wp2_with fail
    go_ret
    exact ⟨_, rfl, by rw [hL.out]; exact ⟨rfl, .inl ⟨rfl, rfl⟩⟩, hB1⟩
  | false =>
    by_cases hn : i + 1 < C.length
    · go_wp2_with fail
      refine (fills_any x _ oi.k1 oi.k2 oi.r1 oi.r2).mono ?_
      rintro e w2 ⟨rfl, hb2⟩
      obtain ⟨hc2, _⟩ := bcell hb2
      replace d0 : w2.cell? ⟨w.heap.size, 0, none⟩ = some (.int .i64 x.k) := by rw [hc2 _ _ (by omega)]; exact d0
      replace d3 : w2.cell? ⟨w.heap.size, 3, none⟩ = some (.int .i64 x.t) := by rw [hc2 _ _ (by omega)]; exact d3
      have hz2 := hb2.size
      have hB2 : Below w.heap.size w w2 := hB1.trans (hb2.mono (by omega))
      clear hc2 hb2 d1 d2 d4 d5
      have hon := on_or x hf hf0
      by_cases h8 : x.k = 8
      · have e8 : (x.k == 8) = true := by simp [h8]
        have hk : Hid (x.k = 8) := h8
        clear h8
        have hL : Hid (waysL x i C.length full = [(i + 1, onB x full), (x.t.toNat, full)]) := by show waysL x i C.length full = [(i + 1, onB x full), (x.t.toNat, full)]; simp [waysL, nextW, toW, hk.out, hn]
        go_wp2_with (first | (refine wpList_append_own _ rfl (.tmp 23) (.tmp 31) 67 rfl w1.heap.size 66 inf (.agg #[.int .i64 0, .int .i64 0]) 2 16 Tryz.underlying67 i1 i2 i3 i4 rfl (by decide) (.slice none 0 0) 0 [] rfl ⟨rfl, .inl ⟨rfl, rfl⟩⟩ ⟨w2.heap.size, 0, none⟩ 1 1 [.int .i64 ((i : Int) + 1), .int .i64 (onB x full)] rfl rfl (by intro q u hq; match q, hq with | 0, hq => simp at hq; subst hq; simp [Addr.add, go_sem] | 1, hq => simp at hq; subst hq; simp [Addr.add, go_sem] | q + 2, hq => simp at hq) (by simp [Value.oneCell']) (by decide) (by decide) (by simp <;> omega) ?_; intro z w3 ho1 hg1 _; have D0 : w3.cell? ⟨w.heap.size, 0, none⟩ = some (.int .i64 x.k) := hg1.cell (by rw [World.cell?_alloc_past _ _ _ (by omega)]; exact d0) (by intro h; cases h); have D3 : w3.cell? ⟨w.heap.size, 3, none⟩ = some (.int .i64 x.t) := hg1.cell (by rw [World.cell?_alloc_past _ _ _ (by omega)]; exact d3) (by intro h; cases h); have hz3 := hg1.size; simp only [World.size_alloc] at hz3; have hB3 : Below w.heap.size w w3 := (hB2.alloc (by omega) _).grown hg1 (by simp <;> omega) (by intro k hk; cases hk); replace ho1 : w3.ownsRow w1.heap.size 66 2 z 1 (wayCells [(i + 1, onB x full)]) := by simpa [wayCells] using ho1) | (refine wpList_append_own _ rfl (.tmp 39) (.tmp 44) 67 rfl w1.heap.size 66 inf (.agg #[.int .i64 0, .int .i64 0]) 2 16 Tryz.underlying67 i1 i2 i3 i4 rfl (by decide) z 1 (wayCells [(i + 1, onB x full)]) rfl (ho1.alloc _) ⟨w3.heap.size, 0, none⟩ 1 1 [.int .i64 x.t, .int .i64 full] rfl rfl (by intro q u hq; match q, hq with | 0, hq => simp at hq; subst hq; simp [Addr.add, go_sem] | 1, hq => simp at hq; subst hq; simp [Addr.add, go_sem] | q + 2, hq => simp at hq) (by simp [Value.oneCell']) (by decide) (by decide) (by simp <;> omega) ?_; intro y w9 ho hg _))
        have hB9 : Below w.heap.size w w9 := (hB3.alloc (by omega) _).grown hg (by simp <;> omega) (by intro k hk; have := (ho1.lt k hk).1; omega)
        replace ho : w9.ownsRow w1.heap.size 66 2 y 2 (wayCells [(i + 1, onB x full), (x.t.toNat, full)]) := by simpa [wayCells, Int.toNat_of_nonneg ht.1] using ho
        go_wp2_with fail
        go_ret
        exact ⟨_, rfl, by rw [hL.out]; exact own_monoW ho (by omega), hB9⟩
      by_cases h10 : x.k = 10
      · have e8 : (x.k == 8) = false := by simp [h8]
        have e9 : (x.k == 9) = false := by simp [h10]
        have e10 : (x.k == 10) = true := by simp [h10]
        have hk : Hid (x.k = 10) := h10
        clear h10
        have hL : Hid (waysL x i C.length full = [(i + 1, onB x full), (x.t.toNat, full)]) := by show waysL x i C.length full = [(i + 1, onB x full), (x.t.toNat, full)]; simp [waysL, nextW, toW, hk.out, hn]
        go_wp2_with (first | (refine wpList_append_own _ rfl (.tmp 23) (.tmp 31) 67 rfl w1.heap.size 66 inf (.agg #[.int .i64 0, .int .i64 0]) 2 16 Tryz.underlying67 i1 i2 i3 i4 rfl (by decide) (.slice none 0 0) 0 [] rfl ⟨rfl, .inl ⟨rfl, rfl⟩⟩ ⟨w2.heap.size, 0, none⟩ 1 1 [.int .i64 ((i : Int) + 1), .int .i64 (onB x full)] rfl rfl (by intro q u hq; match q, hq with | 0, hq => simp at hq; subst hq; simp [Addr.add, go_sem] | 1, hq => simp at hq; subst hq; simp [Addr.add, go_sem] | q + 2, hq => simp at hq) (by simp [Value.oneCell']) (by decide) (by decide) (by simp <;> omega) ?_; intro z w3 ho1 hg1 _; have D0 : w3.cell? ⟨w.heap.size, 0, none⟩ = some (.int .i64 x.k) := hg1.cell (by rw [World.cell?_alloc_past _ _ _ (by omega)]; exact d0) (by intro h; cases h); have D3 : w3.cell? ⟨w.heap.size, 3, none⟩ = some (.int .i64 x.t) := hg1.cell (by rw [World.cell?_alloc_past _ _ _ (by omega)]; exact d3) (by intro h; cases h); have hz3 := hg1.size; simp only [World.size_alloc] at hz3; have hB3 : Below w.heap.size w w3 := (hB2.alloc (by omega) _).grown hg1 (by simp <;> omega) (by intro k hk; cases hk); replace ho1 : w3.ownsRow w1.heap.size 66 2 z 1 (wayCells [(i + 1, onB x full)]) := by simpa [wayCells] using ho1) | (refine wpList_append_own _ rfl (.tmp 39) (.tmp 44) 67 rfl w1.heap.size 66 inf (.agg #[.int .i64 0, .int .i64 0]) 2 16 Tryz.underlying67 i1 i2 i3 i4 rfl (by decide) z 1 (wayCells [(i + 1, onB x full)]) rfl (ho1.alloc _) ⟨w3.heap.size, 0, none⟩ 1 1 [.int .i64 x.t, .int .i64 full] rfl rfl (by intro q u hq; match q, hq with | 0, hq => simp at hq; subst hq; simp [Addr.add, go_sem] | 1, hq => simp at hq; subst hq; simp [Addr.add, go_sem] | q + 2, hq => simp at hq) (by simp [Value.oneCell']) (by decide) (by decide) (by simp <;> omega) ?_; intro y w9 ho hg _))
        have hB9 : Below w.heap.size w w9 := (hB3.alloc (by omega) _).grown hg (by simp <;> omega) (by intro k hk; have := (ho1.lt k hk).1; omega)
        replace ho : w9.ownsRow w1.heap.size 66 2 y 2 (wayCells [(i + 1, onB x full), (x.t.toNat, full)]) := by simpa [wayCells, Int.toNat_of_nonneg ht.1] using ho
        go_wp2_with fail
        go_ret
        exact ⟨_, rfl, by rw [hL.out]; exact own_monoW ho (by omega), hB9⟩
      by_cases h5 : x.k = 5
      · have e8 : (x.k == 8) = false := by simp [h8]
        have e9 : (x.k == 9) = false := by simp [h5]
        have e10 : (x.k == 10) = false := by simp [h10]
        have e5 : (x.k == 5) = true := by simp [h5]
        have hk : Hid (x.k = 5) := h5
        clear h5
        have hL : Hid (waysL x i C.length full = [(i + 1, onB x full), (x.t.toNat, 1)]) := by show waysL x i C.length full = [(i + 1, onB x full), (x.t.toNat, 1)]; simp [waysL, nextW, toW, hk.out, hn]
        go_wp2_with (first | (refine wpList_append_own _ rfl (.tmp 23) (.tmp 31) 67 rfl w1.heap.size 66 inf (.agg #[.int .i64 0, .int .i64 0]) 2 16 Tryz.underlying67 i1 i2 i3 i4 rfl (by decide) (.slice none 0 0) 0 [] rfl ⟨rfl, .inl ⟨rfl, rfl⟩⟩ ⟨w2.heap.size, 0, none⟩ 1 1 [.int .i64 ((i : Int) + 1), .int .i64 (onB x full)] rfl rfl (by intro q u hq; match q, hq with | 0, hq => simp at hq; subst hq; simp [Addr.add, go_sem] | 1, hq => simp at hq; subst hq; simp [Addr.add, go_sem] | q + 2, hq => simp at hq) (by simp [Value.oneCell']) (by decide) (by decide) (by simp <;> omega) ?_; intro z w3 ho1 hg1 _; have D0 : w3.cell? ⟨w.heap.size, 0, none⟩ = some (.int .i64 x.k) := hg1.cell (by rw [World.cell?_alloc_past _ _ _ (by omega)]; exact d0) (by intro h; cases h); have D3 : w3.cell? ⟨w.heap.size, 3, none⟩ = some (.int .i64 x.t) := hg1.cell (by rw [World.cell?_alloc_past _ _ _ (by omega)]; exact d3) (by intro h; cases h); have hz3 := hg1.size; simp only [World.size_alloc] at hz3; have hB3 : Below w.heap.size w w3 := (hB2.alloc (by omega) _).grown hg1 (by simp <;> omega) (by intro k hk; cases hk); replace ho1 : w3.ownsRow w1.heap.size 66 2 z 1 (wayCells [(i + 1, onB x full)]) := by simpa [wayCells] using ho1) | (refine wpList_append_own _ rfl (.tmp 48) (.tmp 52) 67 rfl w1.heap.size 66 inf (.agg #[.int .i64 0, .int .i64 0]) 2 16 Tryz.underlying67 i1 i2 i3 i4 rfl (by decide) z 1 (wayCells [(i + 1, onB x full)]) rfl (ho1.alloc _) ⟨w3.heap.size, 0, none⟩ 1 1 [.int .i64 x.t, .int .i64 1] rfl rfl (by intro q u hq; match q, hq with | 0, hq => simp at hq; subst hq; simp [Addr.add, go_sem] | 1, hq => simp at hq; subst hq; simp [Addr.add, go_sem] | q + 2, hq => simp at hq) (by simp [Value.oneCell']) (by decide) (by decide) (by simp <;> omega) ?_; intro y w9 ho hg _))
        have hB9 : Below w.heap.size w w9 := (hB3.alloc (by omega) _).grown hg (by simp <;> omega) (by intro k hk; have := (ho1.lt k hk).1; omega)
        replace ho : w9.ownsRow w1.heap.size 66 2 y 2 (wayCells [(i + 1, onB x full), (x.t.toNat, 1)]) := by simpa [wayCells, Int.toNat_of_nonneg ht.1] using ho
        go_wp2_with fail
        go_ret
        exact ⟨_, rfl, by rw [hL.out]; exact own_monoW ho (by omega), hB9⟩
      have h9 : x.k ≠ 9 := by intro h; simp [endsB, h] at he
      have h14 : x.k ≠ 14 := by intro h; simp [endsB, h] at he
      have e8 : (x.k == 8) = false := by simp [h8]
      have e9 : (x.k == 9) = false := by simp [h9]
      have e10 : (x.k == 10) = false := by simp [h10]
      have e5 : (x.k == 5) = false := by simp [h5]
      have hL : Hid (waysL x i C.length full = [(i + 1, onB x full)]) := by show waysL x i C.length full = [(i + 1, onB x full)]; simp [waysL, nextW, toW, h8, h9, h10, h5, h14, hn]
      go_wp2_with (refine wpList_append_own _ rfl (.tmp 23) (.tmp 31) 67 rfl w1.heap.size 66 inf (.agg #[.int .i64 0, .int .i64 0]) 2 16 Tryz.underlying67 i1 i2 i3 i4 rfl (by decide) (.slice none 0 0) 0 [] rfl ⟨rfl, .inl ⟨rfl, rfl⟩⟩ ⟨w2.heap.size, 0, none⟩ 1 1 [.int .i64 ((i : Int) + 1), .int .i64 (onB x full)] rfl rfl (by intro q u hq; match q, hq with | 0, hq => simp at hq; subst hq; simp [Addr.add, go_sem] | 1, hq => simp at hq; subst hq; simp [Addr.add, go_sem] | q + 2, hq => simp at hq) (by simp [Value.oneCell']) (by decide) (by decide) (by simp <;> omega) ?_; intro z w3 ho1 hg1 _; have D0 : w3.cell? ⟨w.heap.size, 0, none⟩ = some (.int .i64 x.k) := hg1.cell (by rw [World.cell?_alloc_past _ _ _ (by omega)]; exact d0) (by intro h; cases h); have D3 : w3.cell? ⟨w.heap.size, 3, none⟩ = some (.int .i64 x.t) := hg1.cell (by rw [World.cell?_alloc_past _ _ _ (by omega)]; exact d3) (by intro h; cases h); have hz3 := hg1.size; simp only [World.size_alloc] at hz3; have hB3 : Below w.heap.size w w3 := (hB2.alloc (by omega) _).grown hg1 (by simp <;> omega) (by intro k hk; cases hk); replace ho1 : w3.ownsRow w1.heap.size 66 2 z 1 (wayCells [(i + 1, onB x full)]) := by simpa [wayCells] using ho1)
      go_ret
      exact ⟨_, rfl, by rw [hL.out]; exact own_monoW ho1 (by omega), hB3⟩
    · have hn' : ¬ ((i : Int) + 1 < (C.length : Int)) := by omega
      by_cases h8 : x.k = 8
      · have e8 : (x.k == 8) = true := by simp [h8]
        have hk : Hid (x.k = 8) := h8
        clear h8
        have hL : Hid (waysL x i C.length full = [(x.t.toNat, full)]) := by show waysL x i C.length full = [(x.t.toNat, full)]; simp [waysL, nextW, toW, hk.out, hn]
        go_wp2_with (refine wpList_append_own _ rfl (.tmp 39) (.tmp 44) 67 rfl w1.heap.size 66 inf (.agg #[.int .i64 0, .int .i64 0]) 2 16 Tryz.underlying67 i1 i2 i3 i4 rfl (by decide) (.slice none 0 0) 0 [] rfl ⟨rfl, .inl ⟨rfl, rfl⟩⟩ ⟨w1.heap.size, 0, none⟩ 1 1 [.int .i64 x.t, .int .i64 full] rfl rfl (by intro q u hq; match q, hq with | 0, hq => simp at hq; subst hq; simp [Addr.add, go_sem] | 1, hq => simp at hq; subst hq; simp [Addr.add, go_sem] | q + 2, hq => simp at hq) (by simp [Value.oneCell']) (by decide) (by decide) (by simp <;> omega) ?_; intro y w9 ho hg _)
        have hB9 : Below w.heap.size w w9 := (hB1.alloc (by omega) _).grown hg (by simp <;> omega) (by intro k hk; cases hk)
        replace ho : w9.ownsRow w1.heap.size 66 2 y 1 (wayCells [(x.t.toNat, full)]) := by simpa [wayCells, Int.toNat_of_nonneg ht.1] using ho
        go_wp2_with fail
        go_ret
        exact ⟨_, rfl, by rw [hL.out]; exact own_monoW ho (by omega), hB9⟩
      by_cases h10 : x.k = 10
      · have e8 : (x.k == 8) = false := by simp [h8]
        have e9 : (x.k == 9) = false := by simp [h10]
        have e10 : (x.k == 10) = true := by simp [h10]
        have hk : Hid (x.k = 10) := h10
        clear h10
        have hL : Hid (waysL x i C.length full = [(x.t.toNat, full)]) := by show waysL x i C.length full = [(x.t.toNat, full)]; simp [waysL, nextW, toW, hk.out, hn]
        go_wp2_with (refine wpList_append_own _ rfl (.tmp 39) (.tmp 44) 67 rfl w1.heap.size 66 inf (.agg #[.int .i64 0, .int .i64 0]) 2 16 Tryz.underlying67 i1 i2 i3 i4 rfl (by decide) (.slice none 0 0) 0 [] rfl ⟨rfl, .inl ⟨rfl, rfl⟩⟩ ⟨w1.heap.size, 0, none⟩ 1 1 [.int .i64 x.t, .int .i64 full] rfl rfl (by intro q u hq; match q, hq with | 0, hq => simp at hq; subst hq; simp [Addr.add, go_sem] | 1, hq => simp at hq; subst hq; simp [Addr.add, go_sem] | q + 2, hq => simp at hq) (by simp [Value.oneCell']) (by decide) (by decide) (by simp <;> omega) ?_; intro y w9 ho hg _)
        have hB9 : Below w.heap.size w w9 := (hB1.alloc (by omega) _).grown hg (by simp <;> omega) (by intro k hk; cases hk)
        replace ho : w9.ownsRow w1.heap.size 66 2 y 1 (wayCells [(x.t.toNat, full)]) := by simpa [wayCells, Int.toNat_of_nonneg ht.1] using ho
        go_wp2_with fail
        go_ret
        exact ⟨_, rfl, by rw [hL.out]; exact own_monoW ho (by omega), hB9⟩
      by_cases h5 : x.k = 5
      · have e8 : (x.k == 8) = false := by simp [h8]
        have e9 : (x.k == 9) = false := by simp [h5]
        have e10 : (x.k == 10) = false := by simp [h10]
        have e5 : (x.k == 5) = true := by simp [h5]
        have hk : Hid (x.k = 5) := h5
        clear h5
        have hL : Hid (waysL x i C.length full = [(x.t.toNat, 1)]) := by show waysL x i C.length full = [(x.t.toNat, 1)]; simp [waysL, nextW, toW, hk.out, hn]
        go_wp2_with (refine wpList_append_own _ rfl (.tmp 48) (.tmp 52) 67 rfl w1.heap.size 66 inf (.agg #[.int .i64 0, .int .i64 0]) 2 16 Tryz.underlying67 i1 i2 i3 i4 rfl (by decide) (.slice none 0 0) 0 [] rfl ⟨rfl, .inl ⟨rfl, rfl⟩⟩ ⟨w1.heap.size, 0, none⟩ 1 1 [.int .i64 x.t, .int .i64 1] rfl rfl (by intro q u hq; match q, hq with | 0, hq => simp at hq; subst hq; simp [Addr.add, go_sem] | 1, hq => simp at hq; subst hq; simp [Addr.add, go_sem] | q + 2, hq => simp at hq) (by simp [Value.oneCell']) (by decide) (by decide) (by simp <;> omega) ?_; intro y w9 ho hg _)
        have hB9 : Below w.heap.size w w9 := (hB1.alloc (by omega) _).grown hg (by simp <;> omega) (by intro k hk; cases hk)
        replace ho : w9.ownsRow w1.heap.size 66 2 y 1 (wayCells [(x.t.toNat, 1)]) := by simpa [wayCells, Int.toNat_of_nonneg ht.1] using ho
        go_wp2_with fail
        go_ret
        exact ⟨_, rfl, by rw [hL.out]; exact own_monoW ho (by omega), hB9⟩
      have h9 : x.k ≠ 9 := by intro h; simp [endsB, h] at he
      have h14 : x.k ≠ 14 := by intro h; simp [endsB, h] at he
      have e8 : (x.k == 8) = false := by simp [h8]
      have e9 : (x.k == 9) = false := by simp [h9]
      have e10 : (x.k == 10) = false := by simp [h10]
      have e5 : (x.k == 5) = false := by simp [h5]
      have hL : Hid (waysL x i C.length full = []) := by show waysL x i C.length full = []; simp [waysL, nextW, toW, h8, h9, h10, h5, hn]
      go_wp2_with fail
      go_ret
      exact ⟨_, rfl, by rw [hL.out]; exact ⟨rfl, .inl ⟨rfl, rfl⟩⟩, hB1⟩
end Go.Proofs.YtekmjgkjpdhedaaGreatDoor
namespace Go.Proofs.YtekmjgkjpdhedaaGreatDoor
open Go.ChangeShapes Go.WideShapes Go.ChangeAt Go.RowKit Go.Joins
/-- numbers in memory, below block S: none, or a row of them -/
def Ints (S : Nat) (w : World) (v : Value) (L : List Int) : Prop :=
  ∃ ao cap, v = .slice ao L.length cap ∧ (L = [] ∨ ∃ b o, ao = some ⟨b, o, none⟩ ∧ b < S ∧ ∀ i (h : i < L.length), w.cell? ⟨b, o + i, none⟩ = some (.int .i64 L[i]))
theorem Ints.below {S : Nat} {w w' : World} {v : Value} {L : List Int} (h : Ints S w v L) (hb : Below S w w') : Ints S w' v L := by
  obtain ⟨ao, cap, hv, h⟩ := h
  refine ⟨ao, cap, hv, h.imp id ?_⟩
  rintro ⟨b, o, ha, hl, hc⟩
  exact ⟨b, o, ha, hl, fun i hi => (hb.cell (p := ⟨b, o + i, none⟩) hl).trans (hc i hi)⟩
theorem Ints.mono {S T : Nat} {w : World} {v : Value} {L : List Int} (h : Ints S w v L) (hs : S ≤ T) : Ints T w v L := by
  obtain ⟨ao, cap, hv, h⟩ := h
  refine ⟨ao, cap, hv, h.imp id ?_⟩
  rintro ⟨b, o, ha, hl, hc⟩
  exact ⟨b, o, ha, by omega, hc⟩
/-- numbers in a row of one's own -/
abbrev Owns (w : World) (B : Nat) (v : Value) (L : List Int) : Prop := w.ownsRow B 3 1 v L.length (L.map (Value.int .i64))
theorem Owns.ints {w : World} {B : Nat} {v : Value} {L : List Int} (h : Owns w B v L) : Ints w.heap.size w v L := by
  rcases h.2 with ⟨rfl, hn⟩ | ⟨g, cap, cur, rfl, hg, hh, _⟩
  · have : L = [] := List.eq_nil_of_length_eq_zero hn
    subst this
    exact ⟨none, 0, rfl, .inl rfl⟩
  · refine ⟨_, cap, rfl, .inr ⟨g, 0, rfl, ?_, fun i hi => ?_⟩⟩
    · rcases Decidable.em (g < w.heap.size) with h | h
      · exact h
      · rw [Array.getElem?_eq_none (by omega)] at hh; cases hh
    · have := World.ownsRow.cellAt (w := w) (base := B) (e := 3) (size := 1) (g := g) (cap := cap) h i (by omega)
      rw [Nat.zero_add, this, List.getElem?_map, List.getElem?_eq_getElem hi]; rfl
theorem Owns.keep {w w' : World} {B : Nat} {v : Value} {L : List Int} (h : Owns w B v L) {row : Option Nat} (hg : w.grownBy w' row) (hr : ∀ k, row = some k → k < B) : Owns w' B v L :=
  World.ownsRow.kept h hg (by
    cases hv : v.ownBlock with
    | none => exact .inl rfl
    | some k => exact .inr fun e => by have := (World.ownsRow.lt h k hv).1; have := hr k e.symm; omega)
theorem Owns.below {w w' : World} {B : Nat} {v : Value} {L : List Int} (h : Owns w B v L) (hb : Below w.heap.size w w') : Owns w' B v L :=
  h.keep (row := none) ⟨hb.os, hb.tape, hb.output, hb.size, fun k hk _ => hb.block k hk⟩ (fun k e => by cases e)
theorem Owns.mono {w : World} {A B : Nat} {v : Value} {L : List Int} (h : Owns w B v L) (hb : A ≤ B) : Owns w A v L :=
  ⟨h.1, h.2.imp id fun ⟨g, cap, cur, h1, h2, h3⟩ => ⟨g, cap, cur, h1, Nat.le_trans hb h2, h3⟩⟩
theorem info_intI : ∃ i, Tryz.prog.info? 3 = some i ∧ i.zero = some (.int .i64 0) ∧ i.size = 1 ∧ i.bytes = 8 :=
  ⟨(Tryz.prog.info? 3).get (by kernel_rfl), (Option.some_get _).symm, by kernel_rfl, by kernel_rfl, by kernel_rfl⟩
def hasI (L : List Int) (n : Int) : Bool := L.contains n
theorem hasI_yes {L : List Int} {n : Int} (h : n ∈ L) : hasI L n = true := by unfold hasI; rw [List.contains_iff_mem]; exact h
theorem hasI_no {L : List Int} {n : Int} (h : ∀ j (h : j < L.length), L[j] ≠ n) : hasI L n = false := by
  unfold hasI; rw [← Bool.not_eq_true, List.contains_iff_mem]; intro hm; obtain ⟨j, hj, e⟩ := List.getElem_of_mem hm; exact h j hj e
end Go.Proofs.YtekmjgkjpdhedaaGreatDoor
namespace Go.Proofs.YtekmjgkjpdhedaaGreatDoor
open Go.ChangeShapes Go.WideShapes Go.ChangeAt Go.RowKit Go.Joins
/-- the row of bits in block F -/
abbrev Bits (w : World) (F : Nat) (L : List Int) : Prop := w.ownsRow F 3 1 (.slice (some ⟨F, 0, none⟩) L.length L.length) L.length (L.map (Value.int .i64))
theorem Bits.cell {w : World} {F : Nat} {L : List Int} (h : Bits w F L) {i : Nat} (hi : i < L.length) : w.cell? ⟨F, i, none⟩ = some (.int .i64 (atV L i)) := by
  rw [World.ownsRow.cellAt h i (by omega), List.getElem?_map, List.getElem?_eq_getElem hi]
  simp [atV, List.getD_eq_getElem?_getD, List.getElem?_eq_getElem hi]
theorem Bits.free {w : World} {F : Nat} {L : List Int} (h : Bits w F L) (i : Nat) : w.frozen? ⟨F, i, none⟩ = false := World.ownsRow.frozenAt h i
theorem Bits.set {w : World} {F : Nat} {L : List Int} (h : Bits w F L) (i : Nat) (x : Int) : Bits (w.setCell ⟨F, i, none⟩ (.int .i64 x)) F (L.set i x) := by
  have := (World.ownsRow.stored h i (.int .i64 x)).1
  rw [← List.map_set] at this
  simpa [Bits] using this
theorem Bits.keep {w w' : World} {F : Nat} {L : List Int} (h : Bits w F L) (hk : w'.heap[F]? = w.heap[F]?) : Bits w' F L := by
  obtain ⟨h1, h2⟩ := h
  refine ⟨h1, h2.imp id ?_⟩
  rintro ⟨g, cap, cur, hv, hg, hh, hr⟩
  have e : g = F := by simp at hv; exact hv.1.symm
  subst e
  exact ⟨g, cap, cur, hv, hg, hk.trans hh, hr⟩
theorem Bits.lt {w : World} {F : Nat} {L : List Int} (h : Bits w F L) : F < w.heap.size := (World.ownsRow.lt h F rfl).2
end Go.Proofs.YtekmjgkjpdhedaaGreatDoor
namespace Go.Proofs.YtekmjgkjpdhedaaGreatDoor
open Go.ChangeShapes Go.WideShapes Go.ChangeAt Go.RowKit Go.Joins
theorem bit_four (r : Int) : bitOf r = 1 ∨ bitOf r = 2 ∨ bitOf r = 4 ∨ bitOf r = 8 := by
  unfold bitOf
  split
  · exact .inl rfl
  · split
    · exact .inr (.inl rfl)
    · split
      · exact .inr (.inr (.inl rfl))
      · exact .inr (.inr (.inr rfl))
theorem l3Bit_any (r : Int) (w : World) (h0 : 0 ≤ r) (h3 : r ≤ 3) : Calls Tryz.prog 65 #[.int .i64 r] w fun e w' => e = .returned (.int .i64 (bitOf r)) ∧ Below w.heap.size w w' := by
  have h : r = 0 ∨ r = 1 ∨ r = 2 ∨ r = 3 := by omega
  rcases h with rfl | rfl | rfl | rfl <;>
  · go_enter Tryz.func65, Tryz.ntmps65
    go_wp2_with fail
    go_ret
    exact ⟨rfl, (Below.refl _ _).alloc (Nat.le_refl _) _⟩
/-- whether bits have that of a slot -/
def hasB (x r : Int) : Bool := x / bitOf r % 2 == 1
theorem l3Has_any (x r : Int) (w : World) (hx0 : 0 ≤ x) (hx : x ≤ 15) (h0 : 0 ≤ r) (h3 : r ≤ 3) : Calls Tryz.prog 39 #[.int .i64 x, .int .i64 r] w fun e w' => e = .returned (.bool (hasB x r)) ∧ Below w.heap.size w w' := by
  go_enter Tryz.func39, Tryz.ntmps39
  go_wp2_with fail
  refine (l3Bit_any r _ h0 h3).mono ?_
  rintro e w1 ⟨rfl, hb1⟩
  have hH : Hid (hasB x r = (x / bitOf r % 2 == 1)) := rfl
  have hb := bit_four r
  generalize bitOf r = b at *
  rcases hb with rfl | rfl | rfl | rfl
  all_goals
    go_wp2_with fail
    go_ret
    exact ⟨by rw [hH.out]; first | rfl | (rw [Int.ediv_one]; rfl), hb1⟩
theorem with_or {x r : Int} (hx0 : 0 ≤ x) (hx : x ≤ 15) (h0 : 0 ≤ r) (h3 : r ≤ 3) : (if hasB x r = true then x else x + bitOf r) = orB x (bitOf r) := by
  have key : ∀ i : Fin 17, ∀ j : Fin 4, 0 ≤ (i.val : Int) - 1 → (if hasB ((i.val : Int) - 1) (j.val : Int) = true then (i.val : Int) - 1 else (i.val : Int) - 1 + bitOf (j.val : Int)) = orB ((i.val : Int) - 1) (bitOf (j.val : Int)) := by decide +kernel
  obtain ⟨i, rfl⟩ := bd_fin (x := x) ⟨by omega, hx⟩
  have := key i ⟨r.toNat, by omega⟩ hx0
  have e : ((r.toNat : Nat) : Int) = r := by omega
  simpa [e] using this
theorem l3With_any (x r : Int) (w : World) (hx0 : 0 ≤ x) (hx : x ≤ 15) (h0 : 0 ≤ r) (h3 : r ≤ 3) : Calls Tryz.prog 105 #[.int .i64 x, .int .i64 r] w fun e w' => e = .returned (.int .i64 (orB x (bitOf r))) ∧ Below w.heap.size w w' := by
  have hor : Hid ((if hasB x r = true then x else x + bitOf r) = orB x (bitOf r)) := with_or hx0 hx h0 h3
  go_enter Tryz.func105, Tryz.ntmps105
  go_wp2_with fail
  refine (l3Has_any x r _ hx0 hx h0 h3).mono ?_
  rintro e w1 ⟨rfl, hb1⟩
  cases hh : hasB x r with
  | true =>
    go_wp2_with fail
    go_ret
    exact ⟨by rw [← hor.out, if_pos hh]; rfl, hb1⟩
  | false =>
    go_wp2_with fail
    refine (l3Bit_any r _ h0 h3).mono ?_
    rintro e w2 ⟨rfl, hb2⟩
    have hbb := bit_bd r
    go_wp2_with fail
    go_ret
    exact ⟨by rw [← hor.out, if_neg (by rw [hh]; decide)]; rfl, hb1.trans (hb2.mono hb1.size)⟩
/-- the bits that both have, of the first slots -/
def bothTo (a b : Int) : Nat → Int
  | 0 => 0
  | k + 1 => bothTo a b k + if (hasB a (k : Int) && hasB b (k : Int)) = true then bitOf (k : Int) else 0
theorem both_meet {a b : Int} (ha0 : 0 ≤ a) (ha : a ≤ 15) (hb0 : 0 ≤ b) (hb : b ≤ 15) : bothTo a b 4 = meet a b := by
  have key : ∀ i j : Fin 17, 0 ≤ (i.val : Int) - 1 → 0 ≤ (j.val : Int) - 1 → bothTo ((i.val : Int) - 1) ((j.val : Int) - 1) 4 = meet ((i.val : Int) - 1) ((j.val : Int) - 1) := by decide +kernel
  obtain ⟨i, rfl⟩ := bd_fin (x := a) ⟨by omega, ha⟩
  obtain ⟨j, rfl⟩ := bd_fin (x := b) ⟨by omega, hb⟩
  exact key i j ha0 hb0
theorem both_bd (a b : Int) : ∀ k : Nat, 0 ≤ bothTo a b k ∧ bothTo a b k ≤ 15 * (k : Int)
  | 0 => by simp [bothTo]
  | k + 1 => by
    have ih := both_bd a b k
    have := bit_bd (k : Int)
    unfold bothTo
    split <;> omega
set_option maxHeartbeats 2000000 in
theorem l3Both_any (a b : Int) (w : World) (ha : Bd a) (hb0 : 0 ≤ b) (hb : b ≤ 15) : Calls Tryz.prog 120 #[.int .i64 a, .int .i64 b] w fun e w' => e = .returned (.int .i64 (meet a b)) ∧ Below w.heap.size w w' := by
  obtain ⟨ha1, ha2⟩ := ha
  by_cases h0 : a < 0
  · have e : Hid (meet a b = b) := by show meet a b = b; unfold meet; rw [if_pos h0]
    go_enter Tryz.func120, Tryz.ntmps120
    go_wp2_with fail
    go_ret
    exact ⟨by rw [e.out]; rfl, Below.refl _ _⟩
  · have hm : Hid (bothTo a b 4 = meet a b) := both_meet (by omega) ha2 hb0 hb
    go_enter Tryz.func120, Tryz.ntmps120
    go_wp2_with fail
    go_loopw [5, 6] (fun x i wr => ∃ k : Nat, k ≤ 4 ∧ i = .int .i64 k ∧ x = .int .i64 (bothTo a b k) ∧ Below w.heap.size w wr) (fun _ i _ => 4 - (intOf i).toNat)
    case atStart => exact ⟨0, by decide, rfl, rfl, Below.refl _ _⟩
    case round =>
      obtain ⟨k, hk, rfl, rfl, hB⟩ := hrel
      have hbk := both_bd a b k
      have hzr := hB.size
      by_cases hlt : k < 4
      · have hlt' : (k : Int) ≤ 3 := by omega
        have hs : ∀ c, (hasB a (k : Int) && hasB b (k : Int)) = c → Hid (bothTo a b (k + 1) = bothTo a b k + if c = true then bitOf (k : Int) else 0) := by
          intro c hc; show bothTo a b (k + 1) = _; rw [bothTo, hc]
        have hbb := bit_bd (k : Int)
        go_wp2_with fail
        refine (l3Has_any a (k : Int) _ (by omega) ha2 (by omega) hlt').mono ?_
        rintro e w1 ⟨rfl, hb1⟩
        have hB1 : Below w.heap.size w w1 := hB.trans (hb1.mono hzr)
        have hz1 := hb1.size
        clear hb1
        cases h1 : hasB a (k : Int) with
        | false =>
          have hs' := hs false (by rw [h1]; rfl)
          clear hs
          generalize bothTo a b k = x0 at *
          go_wp2_with fail
          go_roundw
          case rel => exact ⟨k + 1, by omega, by go_num, by rw [hs'.out]; simp, hB1⟩
          case measure => simp [intOf]; omega
        | true =>
          go_wp2_with fail
          refine (l3Has_any b (k : Int) _ hb0 hb (by omega) hlt').mono ?_
          rintro e w2 ⟨rfl, hb2⟩
          have hB2 : Below w.heap.size w w2 := hB1.trans (hb2.mono (by omega))
          have hz2 := hb2.size
          clear hb2
          cases h2 : hasB b (k : Int) with
          | false =>
            have hs' := hs false (by rw [h1, h2]; rfl)
            clear hs
            generalize bothTo a b k = x0 at *
            go_wp2_with fail
            go_roundw
            case rel => exact ⟨k + 1, by omega, by go_num, by rw [hs'.out]; simp, hB2⟩
            case measure => simp [intOf]; omega
          | true =>
            have hs' := hs true (by rw [h1, h2]; rfl)
            clear hs
            go_wp2_with fail
            refine (l3Bit_any (k : Int) _ (by omega) hlt').mono ?_
            rintro e w3 ⟨rfl, hb3⟩
            have hB3 : Below w.heap.size w w3 := hB2.trans (hb3.mono (by omega))
            clear hb3
            generalize bothTo a b k = x0 at *
            generalize bitOf (k : Int) = y0 at *
            go_wp2_with fail
            go_roundw
            case rel => exact ⟨k + 1, by omega, by go_num, by rw [hs'.out]; simp, hB3⟩
            case measure => simp [intOf]; omega
      · have e : k = 4 := by omega
        subst e
        rw [hm.out] at *
        go_wp2_with fail
        go_ret
        exact ⟨rfl, hB⟩
set_option maxHeartbeats 1000000 in
theorem l3Fills_any (k : Int) (w : World) (h1 : 1 ≤ k) (h2 : k ≤ 14) : Calls Tryz.prog 104 #[.int .i64 k] w fun e w' => e = .returned (.bool (fillsB k)) ∧ w' = w := by
  rcases kinds14 h1 h2 with rfl | rfl | rfl | rfl | rfl | rfl | rfl | rfl | rfl | rfl | rfl | rfl | rfl | rfl <;>
  · go_enter Tryz.func104, Tryz.ntmps104
    go_wp2_with fail
    go_ret
    exact ⟨rfl, rfl⟩
theorem merge_len (V : List Int) (p : Nat × Int) : (mergeV V p).length = V.length := by unfold mergeV; split <;> simp
set_option maxHeartbeats 2000000 in
theorem l3Merge_any (F n : Nat) (V : List Int) (hn : V.length = n) (i : Nat) (y : Int) (w : World) (hF : Bits w F V) (hi : i < V.length) (hx : Bd (atV V i)) (hy0 : 0 ≤ y) (hy : y ≤ 15) :
    Calls Tryz.prog 106 #[.slice (some ⟨F, 0, none⟩) n n, .int .i64 i, .int .i64 y] w fun e w' => e = .returned (.bool (mergeB V (i, y))) ∧ Bits w' F (mergeV V (i, y)) ∧ But F w w' := by
  subst hn
  have c0 := hF.cell hi
  have f0 := hF.free i
  have hlt := hF.lt
  have hii : (i : Int) < (V.length : Int) := by omega
  go_enter Tryz.func106, Tryz.ntmps106
  go_wp2_with fail
  refine (l3Both_any _ _ _ hx hy0 hy).mono ?_
  rintro e w1 ⟨rfl, hb1⟩
  have c1 : w1.cell? ⟨F, i, none⟩ = some (.int .i64 (atV V i)) := (hb1.cell (p := ⟨F, i, none⟩) hlt).trans c0
  have f1 : w1.frozen? ⟨F, i, none⟩ = false := (hb1.frozen (p := ⟨F, i, none⟩) hlt).trans f0
  have hF1 : Hid (Bits w1 F V) := hF.keep (hb1.block F hlt)
  have hM : Hid (mergeV V (i, y) = (if meet (atV V i) y = atV V i then V else V.set i (meet (atV V i) y)) ∧ mergeB V (i, y) = !(meet (atV V i) y == atV V i)) := ⟨rfl, rfl⟩
  clear c0 f0 hF
  generalize atV V i = x at *
  generalize meet x y = m at *
  by_cases he : m = x
  · have he' : (m == x) = true := by simp [he]
    have hM2 : Hid (mergeV V (i, y) = V ∧ mergeB V (i, y) = false) := by
      refine ⟨by rw [hM.out.1, if_pos he], by rw [hM.out.2, he']; rfl⟩
    clear he
    go_wp2_with fail
    go_ret
    exact ⟨by rw [hM2.out.2]; rfl, by rw [hM2.out.1]; exact hF1.out, But.of_below hb1⟩
  · have he' : (m == x) = false := by simp [he]
    have hM2 : Hid (mergeV V (i, y) = V.set i m ∧ mergeB V (i, y) = true) := by
      refine ⟨by rw [hM.out.1, if_neg he], by rw [hM.out.2, he']; rfl⟩
    clear he
    go_wp2_with fail
    go_ret
    exact ⟨by rw [hM2.out.2]; rfl, by rw [hM2.out.1]; exact hF1.out.set i m, (But.of_below (R := F) hb1).setCell (p := ⟨F, i, none⟩) rfl _⟩
theorem l3Merge_out (F n : Nat) (i : Nat) (y : Int) (w : World) (hi : n ≤ i) :
    Calls Tryz.prog 106 #[.slice (some ⟨F, 0, none⟩) n n, .int .i64 i, .int .i64 y] w fun e w' => e = .returned (.bool false) ∧ w' = w := by
  have hii : (n : Int) ≤ (i : Int) := by omega
  go_enter Tryz.func106, Tryz.ntmps106
  go_wp2_with fail
  go_ret
  exact ⟨rfl, rfl⟩
end Go.Proofs.YtekmjgkjpdhedaaGreatDoor
namespace Go.Proofs.YtekmjgkjpdhedaaGreatDoor
/-- whether the step at a place reads but full slots, and goes on where there is a step -/
def safeP (C : List OpV) (V : List Int) (i : Nat) : Prop :=
  ∀ (h : i < C.length), 0 ≤ atV V i → (∀ u ∈ usesL C[i].k C[i].r C[i].s, hasB (atV V i) u = true) ∧ (endsB C[i].k = true ∨ i + 1 < C.length)
def SafeOf (C : List OpV) (b : Bool) : Prop := (codeB C = true ∧ ∃ V, IsFull C V ∧ (b = true ↔ ∀ i, i < C.length → safeP C V i)) ∨ (codeB C = false ∧ b = false)
theorem safeOf_one {C : List OpV} {a b : Bool} (h : SafeOf C a) (k : SafeOf C b) : a = b := by
  rcases h with ⟨h, V, f, e⟩ | ⟨h, rfl⟩
  · rcases k with ⟨_, U, g, d⟩ | ⟨k, _⟩
    · have := full_one f g
      subst this
      rw [Bool.eq_iff_iff, e, d]
    · rw [h] at k; cases k
  · rcases k with ⟨k, _⟩ | ⟨_, rfl⟩
    · rw [h] at k; cases k
    · rfl
theorem safe_yes {C : List OpV} (hC : codeB C = true) {V : List Int} (h : IsFull C V) (k : ∀ i, i < C.length → safeP C V i) : SafeOf C true := .inl ⟨hC, V, h, by simp; exact k⟩
theorem safe_no {C : List OpV} (hC : codeB C = true) {V : List Int} (h : IsFull C V) {i : Nat} (hi : i < C.length) (k : ¬ safeP C V i) : SafeOf C false := .inl ⟨hC, V, h, by simp; exact ⟨i, hi, k⟩⟩
/-- the slots of a list, as bits -/
def foldO (l : List Int) : Int := l.foldl (fun b u => orB b (bitOf u)) 0
theorem int_fin4 {u : Int} (h : 0 ≤ u ∧ u ≤ 3) : ∃ i : Fin 4, u = (i.val : Int) := ⟨⟨u.toNat, by omega⟩, by simp; omega⟩
theorem andNot_uses {x : Int} (hx : Bd x) (h0 : 0 ≤ x) : ∀ l : List Int, l.length ≤ 2 → (∀ u ∈ l, 0 ≤ u ∧ u ≤ 3) → (bits .andNot .i64 (foldO l) x == 0) = l.all (hasB x)
  | [], _, _ => by
    have key : ∀ i : Fin 17, 0 ≤ (i.val : Int) - 1 → (bits .andNot .i64 (foldO []) ((i.val : Int) - 1) == 0) = true := by decide +kernel
    obtain ⟨i, rfl⟩ := bd_fin hx
    exact key i h0
  | [u], _, h => by
    have key : ∀ i : Fin 17, ∀ j : Fin 4, 0 ≤ (i.val : Int) - 1 → (bits .andNot .i64 (foldO [(j.val : Int)]) ((i.val : Int) - 1) == 0) = [(j.val : Int)].all (hasB ((i.val : Int) - 1)) := by decide +kernel
    obtain ⟨i, rfl⟩ := bd_fin hx
    obtain ⟨j, rfl⟩ := int_fin4 (h u (by simp))
    exact key i j h0
  | [u, v], _, h => by
    have key : ∀ i : Fin 17, ∀ j k : Fin 4, 0 ≤ (i.val : Int) - 1 → (bits .andNot .i64 (foldO [(j.val : Int), (k.val : Int)]) ((i.val : Int) - 1) == 0) = [(j.val : Int), (k.val : Int)].all (hasB ((i.val : Int) - 1)) := by decide +kernel
    obtain ⟨i, rfl⟩ := bd_fin hx
    obtain ⟨j, rfl⟩ := int_fin4 (h u (by simp))
    obtain ⟨k, rfl⟩ := int_fin4 (h v (by simp))
    exact key i j k h0
  | _ :: _ :: _ :: _, hl, _ => by simp at hl
theorem foldO_take (l : List Int) (k : Nat) (h : k < l.length) : foldO (l.take (k + 1)) = orB (foldO (l.take k)) (bitOf l[k]) := by
  unfold foldO
  rw [List.take_add_one, List.getElem?_eq_getElem h, List.foldl_append]; rfl
theorem foldO_bd : ∀ l : List Int, 0 ≤ foldO l ∧ foldO l ≤ 15 := by
  have key : ∀ (l : List Int) (b : Int), 0 ≤ b ∧ b ≤ 15 → 0 ≤ l.foldl (fun b u => orB b (bitOf u)) b ∧ l.foldl (fun b u => orB b (bitOf u)) b ≤ 15 := by
    intro l
    induction l with
    | nil => intro b h; exact h
    | cons u l ih =>
      intro b h
      have hb := bit_bd u
      exact ih _ (or_bd ⟨by omega, h.2⟩ h.1 hb.1 hb.2)
  exact fun l => key l 0 ⟨by decide, by decide⟩
theorem uses_bd {k r s : Int} (hr : 0 ≤ r ∧ r ≤ 3) (hs : 0 ≤ s ∧ s ≤ 3) : ∀ u ∈ usesL k r s, 0 ≤ u ∧ u ≤ 3 := by
  intro u hu
  unfold usesL at hu
  repeat' split at hu
  all_goals simp at hu
  all_goals first | (rcases hu with rfl | rfl <;> assumption) | (subst hu; assumption)
theorem uses_len (k r s : Int) : (usesL k r s).length ≤ 2 := by
  unfold usesL
  split
  · simp
  · split
    · simp
    · split <;> simp
end Go.Proofs.YtekmjgkjpdhedaaGreatDoor
namespace Go.Proofs.YtekmjgkjpdhedaaGreatDoor
open Go.ChangeShapes Go.WideShapes Go.ChangeAt Go.RowKit Go.Joins
def foldV (V : List Int) : List (Nat × Int) → List Int
  | [] => V
  | p :: ps => foldV (mergeV V p) ps
def foldB (V : List Int) : List (Nat × Int) → Bool
  | [] => false
  | p :: ps => foldB (mergeV V p) ps || mergeB V p
theorem rnd_fold {C : List OpV} {u : List Int} : ∀ (ps : List (Nat × Int)) {v : List Int} {m : Bool}, Rnd C u v m → (∀ p ∈ ps, Sound C p) →
    Rnd C u (foldV v ps) (foldB v ps || m) ∧ (foldB v ps = false → foldV v ps = v ∧ ∀ p ∈ ps, Le (atV v p.1) p.2)
  | [], v, m, h, _ => ⟨by simpa [foldV, foldB] using h, fun _ => ⟨rfl, fun p hp => by cases hp⟩⟩
  | p :: ps, v, m, h, hs => by
    obtain ⟨h1, h2⟩ := rnd_merge h (hs p (by simp))
    obtain ⟨k1, k2⟩ := rnd_fold ps h1 (fun q hq => hs q (by simp [hq]))
    refine ⟨?_, fun e => ?_⟩
    · simp only [foldV, foldB, Bool.or_assoc]
      exact k1
    · simp only [foldB, Bool.or_eq_false_iff] at e
      obtain ⟨a1, a2⟩ := k2 e.1
      obtain ⟨b1, b2⟩ := h2 e.2
      refine ⟨by simp only [foldV]; rw [a1, b1], fun q hq => ?_⟩
      rcases List.mem_cons.1 hq with rfl | hq
      · exact b2
      · have := a2 q hq; rwa [b1] at this
theorem merge_vec {C : List OpV} {v : List Int} (hv : Vec C v) {p : Nat × Int} (h1 : p.1 < C.length) (h2 : 0 ≤ p.2 ∧ p.2 ≤ 15) : Vec C (mergeV v p) := by
  unfold mergeV; split
  · exact hv
  · have hb := meet_bd (hv.2 p.1) h2.1 h2.2
    exact hv.set h1 ⟨by omega, hb.2⟩
/-- the ways out of a place, To first -/
def fromW (o : OpV) (i n : Nat) (x : Int) : List (Nat × Int) := toW o x ++ nextW o i n x
theorem fromW_mem (o : OpV) (i n : Nat) (x : Int) (p : Nat × Int) : p ∈ fromW o i n x ↔ p ∈ waysL o i n x := by unfold fromW waysL; simp [or_comm]
set_option maxRecDepth 20000 in
set_option maxHeartbeats 8000000 in
theorem l3From_any (C : List OpV) (ao : Option Addr) (cap F : Nat) (V : List Int) (i : Nat) (w : World) (hC : codeB C = true) (h : CodeAt w ao C) (hF : Bits w F V) (hV : Vec C V) (hi : i < C.length) (h0 : 0 ≤ atV V i) :
    Calls Tryz.prog 64 #[.slice ao C.length cap, .slice (some ⟨F, 0, none⟩) C.length C.length, .int .i64 i] w fun e w' =>
      e = .returned (.bool (foldB V (fromW C[i] i C.length (atV V i)))) ∧ Bits w' F (foldV V (fromW C[i] i C.length (atV V i))) ∧ But F w w' := by
  obtain ⟨hw, hl, hok⟩ := codeB_well hC
  rcases h with rfl | ⟨b, o, rfl, hlt, hs⟩
  · exact absurd hi (by simp)
  have hVl : V.length = C.length := hV.1
  have oi := opIs_of (hok i hi)
  have ht := hw.2 i hi
  have s := hs i hi
  obtain ⟨x, hx0⟩ : ∃ x, x = C[i] := ⟨_, rfl⟩
  rw [← hx0] at s oi ht ⊢
  clear hx0 hs
  obtain ⟨c0, c1, c2, c3, c4, c5⟩ := s
  have hk1 := oi.k1
  have hk2 := oi.k2
  have cF := hF.cell (i := i) (by omega)
  have hFlt := hF.lt
  have hbd := hV.2 i
  have hbd1 := hbd.1
  have hbd2 := hbd.2
  obtain ⟨t, htt⟩ := Int.eq_ofNat_of_zero_le ht.1
  have htl : t < C.length := by omega
  have htn : Hid (x.t.toNat = t) := by show x.t.toNat = t; rw [htt]; simp
  rw [htt] at c3
  have hii : (i : Int) < (C.length : Int) := by omega
  have hon : Hid (0 ≤ onB x (atV V i) ∧ onB x (atV V i) ≤ 15) := on_bd x hbd h0
  have hOn : Hid (onB x (atV V i) = if fillsB x.k = true then orB (atV V i) (bitOf x.r) else atV V i) := rfl
  have hW : Hid (fromW x i C.length (atV V i) = toW x (atV V i) ++ nextW x i C.length (atV V i)) := rfl
  have hTo : ∀ y, Hid (toW x y = if x.k = 8 ∨ x.k = 9 ∨ x.k = 10 then [(t, y)] else if x.k = 5 then [(t, 1)] else []) := by
    intro y; show toW x y = _; unfold toW; rw [htn.out]
  have hNx : ∀ y, Hid (nextW x i C.length y = if (!(x.k == 9 || x.k == 14) && decide (i + 1 < C.length)) = true then [(i + 1, onB x y)] else []) := fun y => rfl
  generalize hbe : atV V i = bits at *
  have hbe' : Hid (atV V i = bits) := hbe
  clear htt hw hok hC hbe
  go_enter Tryz.func64, Tryz.ntmps64
  go_wp2_with fail
  refine (l3Fills_any _ _ hk1 hk2).mono ?_
  rintro e wq ⟨rfl, rfl⟩
  cases hfl : fillsB x.k with
  | true =>
    have hO2 : Hid (orB bits (bitOf x.r) = onB x bits) := by show orB bits (bitOf x.r) = onB x bits; rw [hOn.out, if_pos hfl]
    go_wp2_with fail
    refine (l3With_any bits x.r _ h0 hbd2 ht.2.2.1 ht.2.2.2).mono ?_
    rintro e w1 ⟨rfl, hbw⟩
    rw [hO2.out]
    obtain ⟨hc1, _⟩ := bcell hbw
    have hz1 := hbw.size
    simp at hz1
    have d0 : w1.cell? ⟨w.heap.size, 0, none⟩ = some (.int .i64 x.k) := by rw [hc1 _ _ (by simp)]; simp [go_sem]
    have d3 : w1.cell? ⟨w.heap.size, 3, none⟩ = some (.int .i64 (t : Int)) := by rw [hc1 _ _ (by simp)]; simp [go_sem]
    have hb1 : Below w.heap.size w w1 := ((Below.refl _ _).alloc (Nat.le_refl _) _).trans (hbw.mono (by simp))
    have hF1 : Bits w1 F V := hF.keep (hb1.block F hFlt)
    have bt1 : But F w w1 := But.of_below hb1
    clear hc1 hbw cF c0 c1 c2 c3 c4 c5 hF
    by_cases h5 : x.k = 5
    · have hk : x.k = 5 := h5
      have e5 : (x.k == 5) = true := by simp [hk]
      have e9 : (x.k == 9) = false := by simp [hk]
      have e8 : (x.k == 8) = false := by simp [hk]
      have e10 : (x.k == 10) = false := by simp [hk]
      have e14 : (x.k == 14) = false := by simp [hk]
      have hkk : Hid (x.k = 5) := hk
      clear hk h5

      have hT2 : Hid (toW x bits = [(t, 1)]) := by show toW x bits = [(t, 1)]; rw [(hTo bits).out]; simp [hkk.out]
      go_wp2_with fail
      refine (l3Merge_any F C.length V hVl t 1 _ hF1 (by omega) (hV.2 t) (by decide) (by decide)).mono ?_
      rintro e wm ⟨rfl, hF2, bt2⟩
      have hFl2 := hF2.lt
      have hlen2 := merge_len V (t, 1)
      have hV2 := merge_vec hV (p := (t, 1)) htl ⟨by simp, by simp⟩
      have bt : But F w wm := bt1.trans bt2
      clear bt2
      generalize hmb : mergeB V (t, 1) = mb0 at *
      by_cases hn : i + 1 < C.length
      · have hL : Hid (fromW x i C.length bits = [(t, 1)] ++ [(i + 1, (onB x bits))]) := by show fromW x i C.length bits = [(t, 1)] ++ [(i + 1, (onB x bits))]; rw [hW.out, hT2.out, (hNx bits).out]; simp [hkk.out, hn]
        go_wp2_with fail
        have K := l3Merge_any F C.length (mergeV V (t, 1)) (by rw [hlen2, hVl]) (i + 1) (onB x bits) _ hF2 (by rw [hlen2]; omega) (hV2.2 _) hon.out.1 hon.out.2
        refine K.mono ?_
        rintro e wn ⟨rfl, hF3, bt3⟩
        clear K
        cases hmb2 : mergeB (mergeV V (t, 1)) (i + 1, (onB x bits)) with
        | true =>
          go_wp2_with fail
          go_ret
          exact ⟨by rw [hL.out]; simp [foldB, hmb2], by rw [hL.out]; exact hF3, bt.trans bt3⟩
        | false =>
          go_wp2_with fail
          go_ret
          exact ⟨by rw [hL.out]; simp [foldB, hmb2, hmb], by rw [hL.out]; exact hF3, bt.trans bt3⟩
      · have hL : Hid (fromW x i C.length bits = [(t, 1)] ++ []) := by show fromW x i C.length bits = [(t, 1)] ++ []; rw [hW.out, hT2.out, (hNx bits).out]; simp [hkk.out, hn]
        go_wp2_with fail
        refine (l3Merge_out F C.length (i + 1) (onB x bits) _ (by omega)).mono ?_
        rintro e wn ⟨rfl, rfl⟩
        go_wp2_with fail
        go_ret
        exact ⟨by rw [hL.out]; simp [foldB, hmb], by rw [hL.out]; exact hF2, bt⟩
    by_cases h8 : x.k = 8
    · have hk : x.k = 8 := h8
      have e5 : (x.k == 5) = false := by simp [hk]
      have e9 : (x.k == 9) = false := by simp [hk]
      have e8 : (x.k == 8) = true := by simp [hk]
      have e10 : (x.k == 10) = false := by simp [hk]
      have e14 : (x.k == 14) = false := by simp [hk]
      have hkk : Hid (x.k = 8) := hk
      clear hk h8

      have hT2 : Hid (toW x bits = [(t, bits)]) := by show toW x bits = [(t, bits)]; rw [(hTo bits).out]; simp [hkk.out]
      go_wp2_with fail
      refine (l3Merge_any F C.length V hVl t bits _ hF1 (by omega) (hV.2 t) h0 hbd2).mono ?_
      rintro e wm ⟨rfl, hF2, bt2⟩
      have hFl2 := hF2.lt
      have hlen2 := merge_len V (t, bits)
      have hV2 := merge_vec hV (p := (t, bits)) htl ⟨h0, hbd2⟩
      have bt : But F w wm := bt1.trans bt2
      clear bt2
      generalize hmb : mergeB V (t, bits) = mb0 at *
      by_cases hn : i + 1 < C.length
      · have hL : Hid (fromW x i C.length bits = [(t, bits)] ++ [(i + 1, (onB x bits))]) := by show fromW x i C.length bits = [(t, bits)] ++ [(i + 1, (onB x bits))]; rw [hW.out, hT2.out, (hNx bits).out]; simp [hkk.out, hn]
        go_wp2_with fail
        have K := l3Merge_any F C.length (mergeV V (t, bits)) (by rw [hlen2, hVl]) (i + 1) (onB x bits) _ hF2 (by rw [hlen2]; omega) (hV2.2 _) hon.out.1 hon.out.2
        refine K.mono ?_
        rintro e wn ⟨rfl, hF3, bt3⟩
        clear K
        cases hmb2 : mergeB (mergeV V (t, bits)) (i + 1, (onB x bits)) with
        | true =>
          go_wp2_with fail
          go_ret
          exact ⟨by rw [hL.out]; simp [foldB, hmb2], by rw [hL.out]; exact hF3, bt.trans bt3⟩
        | false =>
          go_wp2_with fail
          go_ret
          exact ⟨by rw [hL.out]; simp [foldB, hmb2, hmb], by rw [hL.out]; exact hF3, bt.trans bt3⟩
      · have hL : Hid (fromW x i C.length bits = [(t, bits)] ++ []) := by show fromW x i C.length bits = [(t, bits)] ++ []; rw [hW.out, hT2.out, (hNx bits).out]; simp [hkk.out, hn]
        go_wp2_with fail
        refine (l3Merge_out F C.length (i + 1) (onB x bits) _ (by omega)).mono ?_
        rintro e wn ⟨rfl, rfl⟩
        go_wp2_with fail
        go_ret
        exact ⟨by rw [hL.out]; simp [foldB, hmb], by rw [hL.out]; exact hF2, bt⟩
    have h9 : x.k ≠ 9 := by intro h; rw [h] at hfl; exact absurd hfl (by decide)
    have h10 : x.k ≠ 10 := by intro h; rw [h] at hfl; exact absurd hfl (by decide)
    have h14 : x.k ≠ 14 := by intro h; rw [h] at hfl; exact absurd hfl (by decide)
    have e5 : (x.k == 5) = false := by simp [h5]
    have e9 : (x.k == 9) = false := by simp [h9]
    have e8 : (x.k == 8) = false := by simp [h8]
    have e10 : (x.k == 10) = false := by simp [h10]
    have e14 : (x.k == 14) = false := by simp [h14]

    have hT2 : Hid (toW x bits = []) := by show toW x bits = []; rw [(hTo bits).out]; simp [h5, h8, h9, h10]
    by_cases hn : i + 1 < C.length
    · have hL : Hid (fromW x i C.length bits = [] ++ [(i + 1, (onB x bits))]) := by show fromW x i C.length bits = [] ++ [(i + 1, (onB x bits))]; rw [hW.out, hT2.out, (hNx bits).out]; simp [h9, h14, hn]
      go_wp2_with fail
      have K := l3Merge_any F C.length V (hVl) (i + 1) (onB x bits) _ hF1 (by omega) (hV.2 _) hon.out.1 hon.out.2
      refine K.mono ?_
      rintro e wn ⟨rfl, hF3, bt3⟩
      clear K
      cases hmb2 : mergeB V (i + 1, (onB x bits)) with
      | true =>
        go_wp2_with fail
        go_ret
        exact ⟨by rw [hL.out]; simp [foldB, hmb2], by rw [hL.out]; exact hF3, bt1.trans bt3⟩
      | false =>
        go_wp2_with fail
        go_ret
        exact ⟨by rw [hL.out]; simp [foldB, hmb2], by rw [hL.out]; exact hF3, bt1.trans bt3⟩
    · have hL : Hid (fromW x i C.length bits = [] ++ []) := by show fromW x i C.length bits = [] ++ []; rw [hW.out, hT2.out, (hNx bits).out]; simp [hn]
      go_wp2_with fail
      refine (l3Merge_out F C.length (i + 1) (onB x bits) _ (by omega)).mono ?_
      rintro e wn ⟨rfl, rfl⟩
      go_wp2_with fail
      go_ret
      exact ⟨by rw [hL.out]; simp [foldB], by rw [hL.out]; exact hF1, bt1⟩
  | false =>
    have hO2 : Hid (bits = onB x bits) := by show bits = onB x bits; rw [hOn.out, if_neg (by rw [hfl]; decide)]
    have hb1 : Below w.heap.size w (w.alloc (.cells #[.int .i64 x.k, .int .i64 x.r, .int .i64 x.s, .int .i64 (t : Int), .int .i64 x.a, .int .i64 x.b] 43)) := (Below.refl _ _).alloc (Nat.le_refl _) _
    have hF1 : Bits (w.alloc (.cells #[.int .i64 x.k, .int .i64 x.r, .int .i64 x.s, .int .i64 (t : Int), .int .i64 x.a, .int .i64 x.b] 43)) F V := hF.keep (hb1.block F hFlt)
    have bt1 : But F w (w.alloc (.cells #[.int .i64 x.k, .int .i64 x.r, .int .i64 x.s, .int .i64 (t : Int), .int .i64 x.a, .int .i64 x.b] 43)) := But.of_below hb1
    clear cF c0 c1 c2 c3 c4 c5 hF
    by_cases h9 : x.k = 9
    · have hk : x.k = 9 := h9
      have e5 : (x.k == 5) = false := by simp [hk]
      have e9 : (x.k == 9) = true := by simp [hk]
      have e8 : (x.k == 8) = false := by simp [hk]
      have e10 : (x.k == 10) = false := by simp [hk]
      have e14 : (x.k == 14) = false := by simp [hk]
      have hkk : Hid (x.k = 9) := hk
      clear hk h9

      have hT2 : Hid (toW x bits = [(t, bits)]) := by show toW x bits = [(t, bits)]; rw [(hTo bits).out]; simp [hkk.out]
      go_wp2_with fail
      refine (l3Merge_any F C.length V hVl t bits _ hF1 (by omega) (hV.2 t) h0 hbd2).mono ?_
      rintro e wm ⟨rfl, hF2, bt2⟩
      have hFl2 := hF2.lt
      have hlen2 := merge_len V (t, bits)
      have hV2 := merge_vec hV (p := (t, bits)) htl ⟨h0, hbd2⟩
      have bt : But F w wm := bt1.trans bt2
      clear bt2
      have hL : Hid (fromW x i C.length bits = [(t, bits)] ++ []) := by show fromW x i C.length bits = [(t, bits)] ++ []; rw [hW.out, hT2.out, (hNx bits).out]; simp [hkk.out]
      go_wp2_with fail
      go_ret
      exact ⟨by rw [hL.out]; simp [foldB], by rw [hL.out]; exact hF2, bt⟩
    by_cases h10 : x.k = 10
    · have hk : x.k = 10 := h10
      have e5 : (x.k == 5) = false := by simp [hk]
      have e9 : (x.k == 9) = false := by simp [hk]
      have e8 : (x.k == 8) = false := by simp [hk]
      have e10 : (x.k == 10) = true := by simp [hk]
      have e14 : (x.k == 14) = false := by simp [hk]
      have hkk : Hid (x.k = 10) := hk
      clear hk h10

      have hT2 : Hid (toW x bits = [(t, bits)]) := by show toW x bits = [(t, bits)]; rw [(hTo bits).out]; simp [hkk.out]
      go_wp2_with fail
      refine (l3Merge_any F C.length V hVl t bits _ hF1 (by omega) (hV.2 t) h0 hbd2).mono ?_
      rintro e wm ⟨rfl, hF2, bt2⟩
      have hFl2 := hF2.lt
      have hlen2 := merge_len V (t, bits)
      have hV2 := merge_vec hV (p := (t, bits)) htl ⟨h0, hbd2⟩
      have bt : But F w wm := bt1.trans bt2
      clear bt2
      generalize hmb : mergeB V (t, bits) = mb0 at *
      by_cases hn : i + 1 < C.length
      · have hL : Hid (fromW x i C.length bits = [(t, bits)] ++ [(i + 1, bits)]) := by show fromW x i C.length bits = [(t, bits)] ++ [(i + 1, bits)]; rw [hW.out, hT2.out, (hNx bits).out]; simp [hkk.out, hn, ← hO2.out]
        go_wp2_with fail
        have K := l3Merge_any F C.length (mergeV V (t, bits)) (by rw [hlen2, hVl]) (i + 1) bits _ hF2 (by rw [hlen2]; omega) (hV2.2 _) h0 hbd2
        refine K.mono ?_
        rintro e wn ⟨rfl, hF3, bt3⟩
        clear K
        cases hmb2 : mergeB (mergeV V (t, bits)) (i + 1, bits) with
        | true =>
          go_wp2_with fail
          go_ret
          exact ⟨by rw [hL.out]; simp [foldB, hmb2], by rw [hL.out]; exact hF3, bt.trans bt3⟩
        | false =>
          go_wp2_with fail
          go_ret
          exact ⟨by rw [hL.out]; simp [foldB, hmb2, hmb], by rw [hL.out]; exact hF3, bt.trans bt3⟩
      · have hL : Hid (fromW x i C.length bits = [(t, bits)] ++ []) := by show fromW x i C.length bits = [(t, bits)] ++ []; rw [hW.out, hT2.out, (hNx bits).out]; simp [hkk.out, hn]
        go_wp2_with fail
        refine (l3Merge_out F C.length (i + 1) bits _ (by omega)).mono ?_
        rintro e wn ⟨rfl, rfl⟩
        go_wp2_with fail
        go_ret
        exact ⟨by rw [hL.out]; simp [foldB, hmb], by rw [hL.out]; exact hF2, bt⟩
    by_cases h14 : x.k = 14
    · have hk : x.k = 14 := h14
      have e5 : (x.k == 5) = false := by simp [hk]
      have e9 : (x.k == 9) = false := by simp [hk]
      have e8 : (x.k == 8) = false := by simp [hk]
      have e10 : (x.k == 10) = false := by simp [hk]
      have e14 : (x.k == 14) = true := by simp [hk]
      have hkk : Hid (x.k = 14) := hk
      clear hk h14

      have hT2 : Hid (toW x bits = []) := by show toW x bits = []; rw [(hTo bits).out]; simp [hkk.out]
      have hL : Hid (fromW x i C.length bits = [] ++ []) := by show fromW x i C.length bits = [] ++ []; rw [hW.out, hT2.out, (hNx bits).out]; simp [hkk.out]
      go_wp2_with fail
      go_ret
      exact ⟨by rw [hL.out]; rfl, by rw [hL.out]; exact hF1, bt1⟩
    have h5 : x.k ≠ 5 := by intro h; rw [h] at hfl; exact absurd hfl (by decide)
    have h8 : x.k ≠ 8 := by intro h; rw [h] at hfl; exact absurd hfl (by decide)
    have e5 : (x.k == 5) = false := by simp [h5]
    have e9 : (x.k == 9) = false := by simp [h9]
    have e8 : (x.k == 8) = false := by simp [h8]
    have e10 : (x.k == 10) = false := by simp [h10]
    have e14 : (x.k == 14) = false := by simp [h14]

    have hT2 : Hid (toW x bits = []) := by show toW x bits = []; rw [(hTo bits).out]; simp [h5, h8, h9, h10]
    by_cases hn : i + 1 < C.length
    · have hL : Hid (fromW x i C.length bits = [] ++ [(i + 1, bits)]) := by show fromW x i C.length bits = [] ++ [(i + 1, bits)]; rw [hW.out, hT2.out, (hNx bits).out]; simp [h9, h14, hn, ← hO2.out]
      go_wp2_with fail
      have K := l3Merge_any F C.length V (hVl) (i + 1) bits _ hF1 (by omega) (hV.2 _) h0 hbd2
      refine K.mono ?_
      rintro e wn ⟨rfl, hF3, bt3⟩
      clear K
      cases hmb2 : mergeB V (i + 1, bits) with
      | true =>
        go_wp2_with fail
        go_ret
        exact ⟨by rw [hL.out]; simp [foldB, hmb2], by rw [hL.out]; exact hF3, bt1.trans bt3⟩
      | false =>
        go_wp2_with fail
        go_ret
        exact ⟨by rw [hL.out]; simp [foldB, hmb2], by rw [hL.out]; exact hF3, bt1.trans bt3⟩
    · have hL : Hid (fromW x i C.length bits = [] ++ []) := by show fromW x i C.length bits = [] ++ []; rw [hW.out, hT2.out, (hNx bits).out]; simp [hn]
      go_wp2_with fail
      refine (l3Merge_out F C.length (i + 1) bits _ (by omega)).mono ?_
      rintro e wn ⟨rfl, rfl⟩
      go_wp2_with fail
      go_ret
      exact ⟨by rw [hL.out]; simp [foldB], by rw [hL.out]; exact hF1, bt1⟩
end Go.Proofs.YtekmjgkjpdhedaaGreatDoor
namespace Go.Proofs.YtekmjgkjpdhedaaGreatDoor
open Go.ChangeShapes Go.WideShapes Go.ChangeAt Go.RowKit Go.Joins
/-- the first is 0, the others ahead of k are -1 -/
def fillS (n k : Nat) : List Int := 0 :: (List.replicate (k - 1) (-1) ++ List.replicate (n - k) 0)
theorem fillS_len (n k : Nat) (h1 : 1 ≤ k) (h : k ≤ n) : (fillS n k).length = n := by simp [fillS]; omega
theorem fillS_step (n k : Nat) (h1 : 1 ≤ k) (h : k < n) : (fillS n k).set k (-1) = fillS n (k + 1) := by
  unfold fillS
  obtain ⟨j, rfl⟩ : ∃ j, k = j + 1 := ⟨k - 1, by omega⟩
  rw [List.set_cons_succ, Nat.add_sub_cancel, List.set_append_right _ _ (by simp), List.length_replicate, Nat.sub_self, show n - (j + 1) = (n - (j + 1 + 1)) + 1 by omega, List.replicate_succ, List.set_cons_zero, Nat.add_sub_cancel, List.replicate_succ', List.append_assoc]; rfl
theorem fillS_start (n : Nat) (h : 1 ≤ n) : (fillS n n).set 0 1 = startV n := by
  obtain ⟨m, rfl⟩ : ∃ m, n = m + 1 := ⟨n - 1, by omega⟩
  simp [fillS, startV, List.replicate_succ]
theorem fillS_zero (n : Nat) (h : 1 ≤ n) : fillS n 1 = List.replicate n 0 := by
  obtain ⟨m, rfl⟩ : ∃ m, n = m + 1 := ⟨n - 1, by omega⟩
  simp [fillS, List.replicate_succ]
set_option maxRecDepth 20000 in
set_option maxHeartbeats 8000000 in
theorem l3Full_any (C : List OpV) (ao : Option Addr) (cap : Nat) (w : World) (hC : codeB C = true) (h : CodeAt w ao C) :
    Calls Tryz.prog 37 #[.slice ao C.length cap] w fun e w' => ∃ L, e = .returned (.slice (some ⟨w.heap.size, 0, none⟩) C.length C.length) ∧ IsFull C L ∧ Bits w' w.heap.size L ∧ Below w.heap.size w w' := by
  obtain ⟨hw, hl16, hok⟩ := codeB_well hC
  obtain ⟨inf, i1, i2, i3, i4⟩ := info_intI
  have hn1 : 1 ≤ C.length := hw.1
  go_enter Tryz.func37, Tryz.ntmps37
  go_wp2_with (refine wpList_make_full _ rfl (.tmp 8) (.tmp 8) 33 rfl w.heap.size 3 inf _ 1 Tryz.underlying33 i1 i2 i3 .i64 .i64 _ _ C.length rfl rfl rfl rfl (by rw [i4]; omega) (by unfold maxLen; omega) (Nat.le_refl _) ?_; intro w2 ho hg2)
  have hF : Bits w2 w.heap.size (fillS C.length 1) := by
    have e : (madeCells (Value.cells (.int .i64 0)) (C.length * 1)).toList = (fillS C.length 1).map (Value.int .i64) := by
      show (madeCells #[.int .i64 0] (C.length * 1)).toList = _
      rw [toList_madeCells_one, fillS_zero _ hn1]; simp
    rw [e] at ho
    have hfl := fillS_len C.length 1 (Nat.le_refl _) hn1
    unfold Bits
    rw [hfl]
    exact ho
  have hz2 := hg2.size
  have hB2 : Below w.heap.size w w2 := (Below.refl _ _).grown hg2 (by omega) (by intro k hk; cases hk)
  clear ho hg2
  generalize hFe : w.heap.size = F at *
  go_loopw [4] (fun i wr => ∃ k : Nat, 1 ≤ k ∧ k ≤ C.length ∧ i = .int .i64 k ∧ Bits wr F (fillS C.length k) ∧ Below F w2 wr) (fun i _ => C.length - (intOf i).toNat)
  case atStart => exact ⟨1, Nat.le_refl _, hn1, rfl, hF, Below.refl _ _⟩
  case round =>
    clear hF
    obtain ⟨k, hk1, hk, rfl, hF, hB⟩ := hrel
    have hfl := fillS_len C.length k hk1 hk
    by_cases hlt : k < C.length
    · have c0 := hF.cell (i := k) (by rw [hfl]; exact hlt)
      have f0 := hF.free k
      have hF' := hF.set k (-1)
      rw [fillS_step _ _ hk1 hlt] at hF'
      have R : Hid (Bits (wr.setCell ⟨F, k, none⟩ (.int .i64 (-1))) F (fillS C.length (k + 1))) := hF'
      clear hF hF' hfl
      generalize atV (fillS C.length k) k = x0 at *
      go_wp2_with fail
      go_roundw
      case rel => exact ⟨k + 1, by omega, by omega, by go_num, R.out, hB.setCell (by exact Nat.le_refl _) _⟩
      case measure => simp [intOf]; omega
    · have e : k = C.length := by omega
      subst e
      have c0 := hF.cell (i := 0) (by rw [hfl]; omega)
      have f0 := hF.free 0
      have hF0 : Hid (Bits (wr.setCell ⟨F, 0, none⟩ (.int .i64 1)) F (startV C.length)) := by
        show Bits _ _ _
        rw [← fillS_start _ hn1]; exact hF.set 0 1
      obtain ⟨r1, r2, r3⟩ := rnd_start hw
      clear hF hfl
      generalize atV (fillS C.length C.length) 0 = x0 at *
      have hB' : Hid (Below F w2 (wr.setCell ⟨F, 0, none⟩ (.int .i64 1))) := hB.setCell (by exact Nat.le_refl _) _
      go_wp2_with fail
      go_loopg [5] (sumR (startV C.length) + 1) (fun gk s5 wx => ∃ V m, s5 = .bool m ∧ Bits wx F V ∧ Vec C V ∧ Top C V ∧ Le (atV V 0) 1 ∧ (m = false → IsFull C V) ∧ (m = true → sumR V + 1 ≤ gk) ∧ Below F w2 wx)
      case atStart => exact ⟨startV C.length, true, rfl, hF0.out, r1, r2, r3, fun h => (by cases h), fun _ => Nat.le_refl _, hB'.out⟩
      case round =>
        clear hF0 hB r1 r2 r3 hB' c0 f0
        obtain ⟨V, m, rfl, hF, hV, hT, hL1, hdone, hgk, hB⟩ := hrel
        cases m with
        | false =>
          have hd : Hid (IsFull C V) := hdone rfl
          clear hdone hgk
          go_wp2_with fail
          go_ret
          rw [hFe]
          exact ⟨V, rfl, hd.out, hF, hB2.trans (hB.mono (by omega))⟩
        | true =>
          have hgk' := hgk rfl
          clear hdone hgk
          go_wp2_with fail
          go_loopw [5, 6] (fun s5 s6 wy => ∃ (k : Nat) (U : List Int) (m : Bool), k ≤ C.length ∧ s6 = .int .i64 k ∧ s5 = .bool m ∧ Rnd C V U m ∧ (m = false → Upto C k U) ∧ Bits wy F U ∧ Below F w2 wy) (fun _ i _ => C.length - (intOf i).toNat)
          case atStart => exact ⟨0, V, false, Nat.zero_le _, rfl, rfl, ⟨hV, hT, hL1, fun _ => rfl, fun h => by cases h⟩, fun _ j _ h => by omega, hF, hB⟩
          case round =>
            clear hF hV hT hL1 hB
            obtain ⟨k, U, m, hk, rfl, rfl, hR, hU, hF, hB⟩ := hrel
            have hUl : U.length = C.length := hR.1.1
            by_cases hlt : k < C.length
            · have c0 := hF.cell (i := k) (by rw [hUl]; exact hlt)
              have hki : (k : Int) < (C.length : Int) := by omega
              by_cases h0 : 0 ≤ atV U k
              · have hsnd : Hid (∀ p ∈ fromW C[k] k C.length (atV U k), Sound C p) := fun p hp => sound_ways hw hR.1 hR.2.1 hlt h0 p ((fromW_mem _ _ _ _ _).1 hp)
                have hcall : Hid (Calls Tryz.prog 64 #[.slice ao C.length cap, .slice (some ⟨F, 0, none⟩) C.length C.length, .int .i64 k] wr fun e w' =>
                    e = .returned (.bool (foldB U (fromW C[k] k C.length (atV U k)))) ∧ Bits w' F (foldV U (fromW C[k] k C.length (atV U k))) ∧ But F wr w') := l3From_any C ao cap F U k wr hC (h.below (by rw [hFe]; exact hB2.trans hB)) hF hR.1 hlt h0
                have hup : Hid (∀ q ∈ waysL C[k] k C.length (atV U k), q ∈ fromW C[k] k C.length (atV U k)) := fun q hq => (fromW_mem _ _ _ _ _).2 hq
                have hFlt := hF.lt
                generalize hx : atV U k = x at *
                have hx' : Hid (atV U k = x) := hx
                generalize hps : fromW C[k] k C.length x = ps at *
                clear hx hps
                obtain ⟨f1, f2⟩ := rnd_fold ps hR hsnd.out
                have f1' : Hid (Rnd C V (foldV U ps) (foldB U ps || m)) := f1
                have f2' : Hid (foldB U ps = false → foldV U ps = U ∧ ∀ p ∈ ps, Le (atV U p.1) p.2) := f2
                have hU' : Hid (m = false → Upto C k U) := hU
                have hR' : Hid (Rnd C V U m) := hR
                clear f1 f2 hU hR
                go_wp2_with fail
                refine hcall.out.mono ?_
                rintro e w3 ⟨rfl, hF3, bt3⟩
                have hB3 : Below F w2 w3 := hB.trans (bt3.below (Nat.le_refl _) (by omega))
                cases hb : foldB U ps with
                | true =>
                  have hR3 : Hid (Rnd C V (foldV U ps) true) := by have := f1'.out; rw [hb] at this; exact this
                  go_wp2_with fail
                  go_roundw
                  case rel => exact ⟨k + 1, foldV U ps, true, by omega, by go_num, rfl, hR3.out, (fun h => by cases h), hF3, hB3⟩
                  case measure => simp [intOf]; omega
                | false =>
                  obtain ⟨g1, g2⟩ := f2'.out hb
                  rw [g1] at hF3
                  have hn : Hid (m = false → Upto C (k + 1) U) := fun hm j hj hjk h0 q hq => by
                    by_cases e : j < k
                    · exact hU'.out hm j hj e h0 q hq
                    · have : j = k := by omega
                      subst this
                      rw [hx'.out] at hq
                      exact g2 q (hup.out q hq)
                  clear g1 g2
                  go_wp2_with fail
                  go_roundw
                  case rel => exact ⟨k + 1, U, m, by omega, by go_num, rfl, hR'.out, hn.out, hF3, hB3⟩
                  case measure => simp [intOf]; omega
              · have hU' : Hid (m = false → Upto C (k + 1) U) := fun hm j hj hjk hj0 q hq => by
                  by_cases e : j < k
                  · exact hU hm j hj e hj0 q hq
                  · have : j = k := by omega
                    subst this
                    exact absurd hj0 h0
                have hR' : Hid (Rnd C V U m) := hR
                clear hU hR
                generalize atV U k = x at *
                go_wp2_with fail
                go_roundw
                case rel => exact ⟨k + 1, U, m, by omega, by go_num, rfl, hR'.out, hU'.out, hF, hB⟩
                case measure => simp [intOf]; omega
            · have e : k = C.length := by omega
              subst e
              have hd : Hid (m = false → IsFull C U) := fun e => by
                subst e; exact rnd_done hR (hU rfl)
              have hR' : Hid (Rnd C V U m) := hR
              clear hU hR
              go_wp2_with fail
              go_roundg (sumR U + 1 - (if m = true then 0 else 1))
              case measure =>
                have h5 := hR'.out.2.2.2.2
                have h4 := hR'.out.2.2.2.1
                cases m with
                | true => have := h5 rfl; simp; omega
                | false => rw [h4 rfl]; simp; omega
              case rel =>
                exact ⟨U, m, rfl, hF, hR'.out.1, hR'.out.2.1, hR'.out.2.2.1, hd.out, (fun e => by subst e; simp), hB⟩
end Go.Proofs.YtekmjgkjpdhedaaGreatDoor
namespace Go.Proofs.YtekmjgkjpdhedaaGreatDoor
open Go.ChangeShapes Go.WideShapes Go.ChangeAt Go.RowKit Go.Joins
set_option maxRecDepth 20000 in
set_option maxHeartbeats 8000000 in
theorem specCodeSafe_any (C : List OpV) (ao : Option Addr) (cap : Nat) (w : World) (hl : C.length ≤ 1048576) (h : CodeAt w ao C) :
    Calls Tryz.prog 17 #[.slice ao C.length cap] w fun e w' => ∃ b, e = .returned (.bool b) ∧ SafeOf C b ∧ Below w.heap.size w w' := by
  go_enter Tryz.func17, Tryz.ntmps17
  go_wp2_with fail
  refine (specCodeOk_any C ao cap _ hl h).mono ?_
  rintro e w1 ⟨rfl, hb1⟩
  have hz1 := hb1.size
  cases hC : codeB C with
  | false =>
    go_wp2_with fail
    go_ret
    exact ⟨false, rfl, .inr ⟨hC, rfl⟩, hb1⟩
  | true =>
  obtain ⟨hw, hl16, hok⟩ := codeB_well hC
  have hcode := h.below hb1
  go_wp2_with fail
  refine (l3Full_any C ao cap _ hC hcode).mono ?_
  rintro e w2 ⟨V, rfl, hF, hBits, hb2⟩
  have hz2 := hb2.size
  have hVl : V.length = C.length := hF.1.1.1
  generalize hFe : w1.heap.size = F at *
  go_wp2_with fail
  go_loopw [4] (fun i wr => ∃ k : Nat, k ≤ C.length ∧ i = .int .i64 k ∧ Below w2.heap.size w2 wr ∧ ∀ j, j < k → safeP C V j) (fun i _ => C.length - (intOf i).toNat)
  case atStart => exact ⟨0, Nat.zero_le _, rfl, Below.refl _ _, fun j hj => by omega⟩
  case round =>
    obtain ⟨k, hk, rfl, hB, hU⟩ := hrel
    have hzr := hB.size
    by_cases hlt : k < C.length
    · have hBr : Bits wr F V := hBits.keep (hB.block F hBits.lt)
      have c0 := hBr.cell (i := k) (by omega)
      have hki : (k : Int) < (C.length : Int) := by omega
      have hbd := hF.1.1.2 k
      have hbd1 := hbd.1
      have hbd2 := hbd.2
      have hcr : CodeAt wr ao C := hcode.below (by rw [hFe]; exact hb2.trans (hB.mono (by omega)))
      rcases hcr with rfl | ⟨b, o, rfl, hbl, hs⟩
      · exact absurd hlt (by simp)
      have st := hs k hlt
      have oi := opIs_of (hok k hlt)
      have hub := uses_bd (k := C[k].k) (r := C[k].r) (s := C[k].s) ⟨oi.r1, oi.r2⟩ ⟨oi.s1, oi.s2⟩
      have hul := uses_len C[k].k C[k].r C[k].s
      have hk1 := oi.k1
      have hk2 := oi.k2
      have hP : Hid (safeP C V k ↔ ((0 ≤ atV V k) → (∀ u ∈ usesL C[k].k C[k].r C[k].s, hasB (atV V k) u = true) ∧ (endsB C[k].k = true ∨ k + 1 < C.length))) := by
        show _ ↔ _
        unfold safeP
        exact ⟨fun hh h0 => hh hlt h0, fun hh _ h0 => hh h0⟩
      have hnn : ∀ y, y = atV V k → 0 ≤ y ∨ y = -1 := fun y e => by subst e; omega
      have hnn := hnn _ rfl
      have hU' : Hid (∀ j, j < k → safeP C V j) := hU
      have hnext : Hid (safeP C V k → ∀ j, j < k + 1 → safeP C V j) := fun hh j hj => by
        by_cases e : j < k
        · exact hU'.out j e
        · have : j = k := by omega
          subst this; exact hh
      have hno : Hid (¬ safeP C V k → SafeOf C false) := fun hh => safe_no hC hF hlt hh
      generalize atV V k = x at *
      generalize C[k] = op at *
      obtain ⟨s0, s1, s2, s3, s4, s5⟩ := st
      clear hs hU oi
      rcases hnn with h0 | h0
      · go_wp2_with fail
        refine (l2Uses_any op.k op.r op.s op.t op.a op.b _ hk1 hk2).mono ?_
        rintro e w3 ⟨b5, rfl, hb5, hb5', hc5, hb3⟩
        have hz3 := hb3.size
        have hB3 : Below w2.heap.size w2 w3 := hB.trans (hb3.mono hzr)
        have d0 : w3.cell? ⟨F, k, none⟩ = some (.int .i64 x) := (hb3.cell (p := ⟨F, k, none⟩) hBr.lt).trans c0
        have t0 : w3.cell? ⟨b, o + k * 6, none⟩ = some (.int .i64 op.k) := (hb3.cell (p := ⟨b, o + k * 6, none⟩) hbl).trans s0
        have hFlt := hBr.lt
        generalize hMe : usesL op.k op.r op.s = M at *
        clear hMe hb3 s0 s1 s2 s3 s4 s5 c0
        go_wp2_with fail
        go_loopw [6] (fun i wy => ∃ j : Nat, j ≤ M.length ∧ i = .int .i64 j ∧ Below w3.heap.size w3 wy ∧ ∀ q (hq : q < M.length), q < j → hasB x M[q] = true) (fun i _ => M.length - (intOf i).toNat)
        case atStart => exact ⟨0, Nat.zero_le _, rfl, Below.refl _ _, fun q _ h => by omega⟩
        case round =>
          obtain ⟨j, hj, rfl, hBy, hq⟩ := hrel
          have hzy := hBy.size
          by_cases hjlt : j < M.length
          · have e0 : wr.cell? ⟨F, k, none⟩ = some (.int .i64 x) := (hBy.cell (p := ⟨F, k, none⟩) (by show F < w3.heap.size; omega)).trans d0
            have e1 : wr.cell? ⟨b5, j, none⟩ = some (.int .i64 M[j]) := by
              rw [hBy.cell (p := ⟨b5, j, none⟩) hb5', hc5 j hjlt]
              simp [List.getD_eq_getElem?_getD, List.getElem?_eq_getElem hjlt]
            have hu := hub M[j] (List.getElem_mem hjlt)
            have hji : (j : Int) < (M.length : Int) := by omega
            have hq' : Hid (∀ b, hasB x M[j] = b → (b = true → ∀ q (hq : q < M.length), q < j + 1 → hasB x M[q] = true) ∧ (b = false → ¬ safeP C V k)) := by
              intro b hb
              refine ⟨fun e q hq1 hq2 => ?_, fun e hh => ?_⟩
              · by_cases e2 : q < j
                · exact hq q hq1 e2
                · have : q = j := by omega
                  subst this; rw [hb]; exact e
              · have := (hP.out.1 hh h0).1 M[j] (List.getElem_mem hjlt)
                rw [hb, e] at this; cases this
            generalize M[j] = u at *
            clear hq d0
            go_wp2_with fail
            cases hh : hasB x u with
            | true =>
              have hn := (hq'.out true hh).1 rfl
              have hn' : Hid (∀ q (hq : q < M.length), q < j + 1 → hasB x M[q] = true) := hn
              clear hn
              go_region_with (go_at_call 39; refine (l3Has_any x u _ h0 hbd2 hu.1 hu.2).mono ?_; rintro e w4 ⟨rfl, hb4⟩)
              all_goals
                have hB4 : Below w3.heap.size w3 w4 := hBy.trans ((show Below wr.heap.size wr w4 from ⟨hb4.os, hb4.tape, hb4.output, hb4.size, hb4.block⟩).mono hzy)
                go_step
                go_wp2_with fail
                go_roundw
                case rel => exact ⟨j + 1, by omega, by go_num, hB4, hn'.out⟩
                case measure => simp [intOf]; omega
            | false =>
              have hn := (hq'.out false hh).2 rfl
              have hn' : Hid (SafeOf C false) := hno.out hn
              clear hn
              go_region_with (go_at_call 39; refine (l3Has_any x u _ h0 hbd2 hu.1 hu.2).mono ?_; rintro e w4 ⟨rfl, hb4⟩)
              all_goals
                have hB4 : Below w3.heap.size w3 w4 := hBy.trans ((show Below wr.heap.size wr w4 from ⟨hb4.os, hb4.tape, hb4.output, hb4.size, hb4.block⟩).mono hzy)
                go_step
                go_wp2_with fail
                go_ret
                exact ⟨false, rfl, hn'.out, hb1.trans ((hb2.mono (by omega)).trans ((hB3.mono (by omega)).trans (hB4.mono (by omega))))⟩
          · have e : j = M.length := by omega
            subst e
            have u0 : wr.cell? ⟨b, o + k * 6, none⟩ = some (.int .i64 op.k) := (hBy.cell (p := ⟨b, o + k * 6, none⟩) (by show b < w3.heap.size; omega)).trans t0
            have hall : Hid (∀ u ∈ M, hasB x u = true) := fun u hu => by
              obtain ⟨q, hq1, rfl⟩ := List.getElem_of_mem hu
              exact hq q hq1 hq1
            have hBy2 : Below w2.heap.size w2 wr := hB3.trans (hBy.mono (by omega))
            clear hq d0 t0
            by_cases hlast : k + 1 = C.length
            · have hl1 : ((k : Int) + 1 == (C.length : Int)) = true := by simp; omega
              by_cases h9 : op.k = 9
              · have b9 : (op.k != 9) = false := by simp [h9]
                have hn : Hid (∀ j, j < k + 1 → safeP C V j) := hnext.out (hP.out.2 fun _ => ⟨hall.out, .inl (by simp [endsB, h9])⟩)
                clear h9 hlast
                go_wp2_with fail
                go_roundw
                case rel => exact ⟨k + 1, by omega, by go_num, hBy2, hn.out⟩
                case measure => simp [intOf]; omega
              · have b9 : (op.k != 9) = true := by simp [h9]
                by_cases h14 : op.k = 14
                · have b14 : (op.k != 14) = false := by simp [h14]
                  have hn : Hid (∀ j, j < k + 1 → safeP C V j) := hnext.out (hP.out.2 fun _ => ⟨hall.out, .inl (by simp [endsB, h14])⟩)
                  clear h9 h14 hlast
                  go_wp2_with fail
                  go_roundw
                  case rel => exact ⟨k + 1, by omega, by go_num, hBy2, hn.out⟩
                  case measure => simp [intOf]; omega
                · have b14 : (op.k != 14) = true := by simp [h14]
                  have hn : Hid (SafeOf C false) := hno.out (fun hh => by
                    rcases (hP.out.1 hh h0).2 with e | e
                    · simp [endsB, h9, h14] at e
                    · omega)
                  clear h9 h14 hlast
                  go_wp2_with fail
                  go_ret
                  exact ⟨false, rfl, hn.out, hb1.trans ((hb2.mono (by omega)).trans (hBy2.mono (by omega)))⟩
            · have hl1 : ((k : Int) + 1 == (C.length : Int)) = false := by simp; omega
              have hn : Hid (∀ j, j < k + 1 → safeP C V j) := hnext.out (hP.out.2 fun _ => ⟨hall.out, .inr (by omega)⟩)
              clear hlast
              go_wp2_with fail
              go_roundw
              case rel => exact ⟨k + 1, by omega, by go_num, hBy2, hn.out⟩
              case measure => simp [intOf]; omega
      · have hx0 : x < 0 := by omega
        have hn : Hid (∀ j, j < k + 1 → safeP C V j) := hnext.out (hP.out.2 fun hh => by omega)
        clear h0
        go_wp2_with fail
        go_roundw
        case rel => exact ⟨k + 1, by omega, by go_num, hB, hn.out⟩
        case measure => simp [intOf]; omega
    · have e : k = C.length := by omega
      subst e
      have hU' : Hid (∀ j, j < C.length → safeP C V j) := hU
      clear hU
      go_wp2_with fail
      go_ret
      exact ⟨true, rfl, safe_yes hC hF hU'.out, hb1.trans ((hb2.mono (by omega)).trans (hB.mono (by omega)))⟩
end Go.Proofs.YtekmjgkjpdhedaaGreatDoor
