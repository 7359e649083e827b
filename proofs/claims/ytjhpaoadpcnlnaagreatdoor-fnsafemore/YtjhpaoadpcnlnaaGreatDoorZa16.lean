/-
  impl.waysFrom over this translation: the ways out of a place of ok steps, in a row of their own; nothing that was there turns.
-/
import Derived.Test.YtjhpaoadpcnlnaaGreatDoorZa02
import Derived.OwnWalk
import Derived.Laws.OwnMore
namespace Go.Proofs.YtjhpaoadpcnlnaaGreatDoor
open Go.ChangeShapes Go.WideShapes Go.ChangeAt Go.RowKit Go.Joins
def endsB (k : Int) : Bool := k == 9 || k == 14
set_option maxHeartbeats 1000000 in
theorem goesOrEnds_any (x : OpV) (w : World) : Calls Tryz.prog 104 #[x.val] w fun e w' => e = .returned (.bool (endsB x.k)) ∧ Below w.heap.size w w' := by
  by_cases h9 : x.k = 9
  · have e : Hid (endsB x.k = true) := by show endsB x.k = true; simp [endsB, h9]
    go_enter Tryz.func104, Tryz.ntmps104
    go_wp2_with fail
    go_ret
    exact ⟨by rw [e.out]; rfl, (Below.refl _ _).alloc (Nat.le_refl _) _⟩
  · have e9 : (x.k == 9) = false := by simp [h9]
    go_enter Tryz.func104, Tryz.ntmps104
    go_wp2_with fail
    go_ret
    exact ⟨by simp [endsB, h9], (Below.refl _ _).alloc (Nat.le_refl _) _⟩
theorem slotBit_any (r : Int) (w : World) (h0 : 0 ≤ r) (h3 : r ≤ 3) : Calls Tryz.prog 125 #[.int .i64 r] w fun e w' => e = .returned (.int .i64 (bitOf r)) ∧ w' = w := by
  have h : r = 0 ∨ r = 1 ∨ r = 2 ∨ r = 3 := by omega
  rcases h with rfl | rfl | rfl | rfl <;>
  · go_enter Tryz.func125, Tryz.ntmps125
    go_wp2_with fail
    go_ret
    exact ⟨rfl, rfl⟩
def fillV (x : OpV) : Int := if fillsB x.k = true then bitOf x.r else 0
set_option maxHeartbeats 2000000 in
theorem fills_any (x : OpV) (w : World) (h1 : 1 ≤ x.k) (h2 : x.k ≤ 14) (h0 : 0 ≤ x.r) (h3 : x.r ≤ 3) : Calls Tryz.prog 105 #[x.val] w fun e w' => e = .returned (.int .i64 (fillV x)) ∧ Below w.heap.size w w' := by
  obtain ⟨k, r, s, t, a, b⟩ := x
  dsimp only at h0 h1 h2 h3
  rcases kinds14 h1 h2 with rfl | rfl | rfl | rfl | rfl | rfl | rfl | rfl | rfl | rfl | rfl | rfl | rfl | rfl
  all_goals
    go_enter Tryz.func105, Tryz.ntmps105
    go_wp2_with (go_at_call 125; refine (slotBit_any _ _ h0 h3).mono ?_; rintro e w1 ⟨rfl, rfl⟩)
    go_ret
    exact ⟨rfl, (Below.refl _ _).alloc (Nat.le_refl _) _⟩
theorem or_i64 {x y : Int} (hx : Bd x) (h0 : 0 ≤ x) (hy : 0 ≤ y) (hy2 : y ≤ 15) : bits .or .i64 x y = orB x y := by
  have key : ∀ i j : Fin 17, 0 ≤ (i.val : Int) - 1 → 0 ≤ (j.val : Int) - 1 → bits .or .i64 ((i.val : Int) - 1) ((j.val : Int) - 1) = orB ((i.val : Int) - 1) ((j.val : Int) - 1) := by decide +kernel
  obtain ⟨i, rfl⟩ := bd_fin hx
  obtain ⟨j, rfl⟩ := bd_fin (x := y) ⟨by omega, hy2⟩
  exact key i j h0 hy
theorem and_i64 {x y : Int} (hx : Bd x) (hy : 0 ≤ y) (hy2 : y ≤ 15) : bits .and .i64 x y = meet x y := by
  have key : ∀ i j : Fin 17, 0 ≤ (j.val : Int) - 1 → bits .and .i64 ((i.val : Int) - 1) ((j.val : Int) - 1) = meet ((i.val : Int) - 1) ((j.val : Int) - 1) := by decide +kernel
  obtain ⟨i, rfl⟩ := bd_fin hx
  obtain ⟨j, rfl⟩ := bd_fin (x := y) ⟨by omega, hy2⟩
  exact key i j hy
theorem on_or (o : OpV) {x : Int} (hx : Bd x) (h0 : 0 ≤ x) : bits .or .i64 x (fillV o) = onB o x := by
  have hb := bit_bd o.r
  have e : orB x 0 = x := by
    have key : ∀ i : Fin 17, 0 ≤ (i.val : Int) - 1 → orB ((i.val : Int) - 1) 0 = (i.val : Int) - 1 := by decide +kernel
    obtain ⟨i, rfl⟩ := bd_fin hx
    exact key i h0
  unfold fillV onB
  split
  · exact or_i64 hx h0 hb.1 hb.2
  · rw [or_i64 hx h0 (by decide) (by decide), e]
def wayCells (L : List (Nat × Int)) : List Value := L.flatMap fun p => [.int .i64 (p.1 : Int), .int .i64 p.2]
/-- ways in a row of one's own -/
def OwnWays (w : World) (L : List (Nat × Int)) (e : Ending) (w' : World) : Prop :=
  ∃ v, e = .returned v ∧ w'.ownsRow w.heap.size 81 2 v L.length (wayCells L) ∧ Below w.heap.size w w'
theorem info_way : ∃ i, Tryz.prog.info? 81 = some i ∧ i.zero = some (.agg #[.int .i64 0, .int .i64 0]) ∧ i.size = 2 ∧ i.bytes = 16 :=
  ⟨(Tryz.prog.info? 81).get (by kernel_rfl), (Option.some_get _).symm, by kernel_rfl, by kernel_rfl, by kernel_rfl⟩
theorem own_monoW {B B' : Nat} {e : TypeId} {sz : Nat} {v : Value} {n : Nat} {xs : List Value} {w : World} (h : w.ownsRow B e sz v n xs) (hb : B' ≤ B) : w.ownsRow B' e sz v n xs :=
  ⟨h.1, h.2.imp id fun ⟨g, cap, cur, h1, h2, h3⟩ => ⟨g, cap, cur, h1, Nat.le_trans hb h2, h3⟩⟩
set_option maxRecDepth 20000 in
set_option maxHeartbeats 4000000 in
theorem ways_any (C : List OpV) (ao : Option Addr) (cap i : Nat) (full : Int) (w : World) (hC : codeB C = true) (h : CodeAt w ao C) (hi : i < C.length) (hf : Bd full) (hf0 : 0 ≤ full) :
    Calls Tryz.prog 66 #[.slice ao C.length cap, .int .i64 i, .int .i64 full] w fun e w' => OwnWays w (waysL C[i] i C.length full) e w' := by
  obtain ⟨hw, hl, hok⟩ := codeB_well hC
  rcases h with rfl | ⟨b, o, rfl, hlt, hs⟩
  · exact absurd hi (by simp)
  have oi := opIs_of (hok i hi)
  have ht := hw.2 i hi
  have s := hs i hi
  obtain ⟨x, hx0⟩ : ∃ x, x = C[i] := ⟨_, rfl⟩
  rw [← hx0] at s oi ht ⊢
  clear hx0 hs
  obtain ⟨c0, c1, c2, c3, c4, c5⟩ := s
  obtain ⟨inf, i1, i2, i3, i4⟩ := info_way
  go_enter Tryz.func66, Tryz.ntmps66
  go_wp2_with fail
  refine (goesOrEnds_any x _).mono ?_
  rintro e w1 ⟨rfl, hb1⟩
  obtain ⟨hc1, _⟩ := bcell hb1
  have d0 : w1.cell? ⟨w.heap.size, 0, none⟩ = some (.int .i64 x.k) := by rw [hc1 _ _ (by simp)]; simp [go_sem]
  have d1 : w1.cell? ⟨w.heap.size, 1, none⟩ = some (.int .i64 x.r) := by rw [hc1 _ _ (by simp)]; simp [go_sem]
  have d2 : w1.cell? ⟨w.heap.size, 2, none⟩ = some (.int .i64 x.s) := by rw [hc1 _ _ (by simp)]; simp [go_sem]
  have d3 : w1.cell? ⟨w.heap.size, 3, none⟩ = some (.int .i64 x.t) := by rw [hc1 _ _ (by simp)]; simp [go_sem]
  have d4 : w1.cell? ⟨w.heap.size, 4, none⟩ = some (.int .i64 x.a) := by rw [hc1 _ _ (by simp)]; simp [go_sem]
  have d5 : w1.cell? ⟨w.heap.size, 5, none⟩ = some (.int .i64 x.b) := by rw [hc1 _ _ (by simp)]; simp [go_sem]
  have hz1 := hb1.size
  simp at hz1
  have hB1 : Below w.heap.size w w1 := ((Below.refl _ _).alloc (Nat.le_refl _) _).trans (hb1.mono (by simp))
  clear hc1 hb1 c0 c1 c2 c3 c4 c5
  cases he : endsB x.k with
  | true =>
    by_cases h9 : x.k = 9
    · have e8 : (x.k == 8) = false := by simp [h9]
      have e9 : (x.k == 9) = true := by simp [h9]
      have hL : Hid (waysL x i C.length full = [(x.t.toNat, full)]) := by show waysL x i C.length full = [(x.t.toNat, full)]; simp [waysL, nextW, toW, h9]
      go_wp2_with (refine wpList_append_own _ rfl (.tmp 39) (.tmp 44) 82 rfl w1.heap.size 81 inf (.agg #[.int .i64 0, .int .i64 0]) 2 16 Tryz.underlying82 i1 i2 i3 i4 rfl (by decide) (.slice none 0 0) 0 [] rfl ⟨rfl, .inl ⟨rfl, rfl⟩⟩ ⟨w1.heap.size, 0, none⟩ 1 1 [.int .i64 x.t, .int .i64 full] rfl rfl (by intro q u hq; match q, hq with | 0, hq => simp at hq; subst hq; simp [Addr.add, go_sem] | 1, hq => simp at hq; subst hq; simp [Addr.add, go_sem] | q + 2, hq => simp at hq) (by simp [Value.oneCell']) (by decide) (by decide) (by simp <;> omega) ?_; intro y w9 ho hg _)
      have hB9 : Below w.heap.size w w9 := (hB1.alloc (by omega) _).grown hg (by simp <;> omega) (by intro k hk; cases hk)
      replace ho : w9.ownsRow w1.heap.size 81 2 y 1 (wayCells [(x.t.toNat, full)]) := by simpa [wayCells, Int.toNat_of_nonneg ht.1] using ho
      go_wp2_with fail
      go_ret
      exact ⟨_, rfl, by rw [hL.out]; exact own_monoW ho (by omega), hB9⟩
    have e14 : x.k = 14 := by simp [endsB, h9] at he; exact he
    have e8 : (x.k == 8) = false := by simp [e14]
    have e9 : (x.k == 9) = false := by simp [e14]
    have e10 : (x.k == 10) = false := by simp [e14]
    have e5 : (x.k == 5) = false := by simp [e14]
    have hk : Hid (x.k = 14) := e14
    clear e14
    have hL : Hid (waysL x i C.length full = []) := by show waysL x i C.length full = []; simp [waysL, nextW, toW, hk.out]
    go_wp2_with fail
    go_ret
    exact ⟨_, rfl, by rw [hL.out]; exact ⟨rfl, .inl ⟨rfl, rfl⟩⟩, hB1⟩
  | false =>
    by_cases hn : i + 1 < C.length
    · go_wp2_with fail
      refine (fills_any x _ oi.k1 oi.k2 oi.r1 oi.r2).mono ?_
      rintro e w2 ⟨rfl, hb2⟩
      obtain ⟨hc2, _⟩ := bcell hb2
      replace d0 : w2.cell? ⟨w.heap.size, 0, none⟩ = some (.int .i64 x.k) := by rw [hc2 _ _ (by omega)]; exact d0
      replace d3 : w2.cell? ⟨w.heap.size, 3, none⟩ = some (.int .i64 x.t) := by rw [hc2 _ _ (by omega)]; exact d3
      have hz2 := hb2.size
      have hB2 : Below w.heap.size w w2 := hB1.trans (hb2.mono (by omega))
      clear hc2 hb2 d1 d2 d4 d5
      have hon := on_or x hf hf0
      by_cases h8 : x.k = 8
      · have e8 : (x.k == 8) = true := by simp [h8]
        have hk : Hid (x.k = 8) := h8
        clear h8
        have hL : Hid (waysL x i C.length full = [(i + 1, onB x full), (x.t.toNat, full)]) := by show waysL x i C.length full = [(i + 1, onB x full), (x.t.toNat, full)]; simp [waysL, nextW, toW, hk.out, hn]
        go_wp2_with (first | (refine wpList_append_own _ rfl (.tmp 23) (.tmp 31) 82 rfl w1.heap.size 81 inf (.agg #[.int .i64 0, .int .i64 0]) 2 16 Tryz.underlying82 i1 i2 i3 i4 rfl (by decide) (.slice none 0 0) 0 [] rfl ⟨rfl, .inl ⟨rfl, rfl⟩⟩ ⟨w2.heap.size, 0, none⟩ 1 1 [.int .i64 ((i : Int) + 1), .int .i64 (onB x full)] rfl rfl (by intro q u hq; match q, hq with | 0, hq => simp at hq; subst hq; simp [Addr.add, go_sem] | 1, hq => simp at hq; subst hq; simp [Addr.add, go_sem] | q + 2, hq => simp at hq) (by simp [Value.oneCell']) (by decide) (by decide) (by simp <;> omega) ?_; intro z w3 ho1 hg1 _; have D0 : w3.cell? ⟨w.heap.size, 0, none⟩ = some (.int .i64 x.k) := hg1.cell (by rw [World.cell?_alloc_past _ _ _ (by omega)]; exact d0) (by intro h; cases h); have D3 : w3.cell? ⟨w.heap.size, 3, none⟩ = some (.int .i64 x.t) := hg1.cell (by rw [World.cell?_alloc_past _ _ _ (by omega)]; exact d3) (by intro h; cases h); have hz3 := hg1.size; simp only [World.size_alloc] at hz3; have hB3 : Below w.heap.size w w3 := (hB2.alloc (by omega) _).grown hg1 (by simp <;> omega) (by intro k hk; cases hk); replace ho1 : w3.ownsRow w1.heap.size 81 2 z 1 (wayCells [(i + 1, onB x full)]) := by simpa [wayCells] using ho1) | (refine wpList_append_own _ rfl (.tmp 39) (.tmp 44) 82 rfl w1.heap.size 81 inf (.agg #[.int .i64 0, .int .i64 0]) 2 16 Tryz.underlying82 i1 i2 i3 i4 rfl (by decide) z 1 (wayCells [(i + 1, onB x full)]) rfl (ho1.alloc _) ⟨w3.heap.size, 0, none⟩ 1 1 [.int .i64 x.t, .int .i64 full] rfl rfl (by intro q u hq; match q, hq with | 0, hq => simp at hq; subst hq; simp [Addr.add, go_sem] | 1, hq => simp at hq; subst hq; simp [Addr.add, go_sem] | q + 2, hq => simp at hq) (by simp [Value.oneCell']) (by decide) (by decide) (by simp <;> omega) ?_; intro y w9 ho hg _))
        have hB9 : Below w.heap.size w w9 := (hB3.alloc (by omega) _).grown hg (by simp <;> omega) (by intro k hk; have := (ho1.lt k hk).1; omega)
        replace ho : w9.ownsRow w1.heap.size 81 2 y 2 (wayCells [(i + 1, onB x full), (x.t.toNat, full)]) := by simpa [wayCells, Int.toNat_of_nonneg ht.1] using ho
        go_wp2_with fail
        go_ret
        exact ⟨_, rfl, by rw [hL.out]; exact own_monoW ho (by omega), hB9⟩
      by_cases h10 : x.k = 10
      · have e8 : (x.k == 8) = false := by simp [h8]
        have e9 : (x.k == 9) = false := by simp [h10]
        have e10 : (x.k == 10) = true := by simp [h10]
        have hk : Hid (x.k = 10) := h10
        clear h10
        have hL : Hid (waysL x i C.length full = [(i + 1, onB x full), (x.t.toNat, full)]) := by show waysL x i C.length full = [(i + 1, onB x full), (x.t.toNat, full)]; simp [waysL, nextW, toW, hk.out, hn]
        go_wp2_with (first | (refine wpList_append_own _ rfl (.tmp 23) (.tmp 31) 82 rfl w1.heap.size 81 inf (.agg #[.int .i64 0, .int .i64 0]) 2 16 Tryz.underlying82 i1 i2 i3 i4 rfl (by decide) (.slice none 0 0) 0 [] rfl ⟨rfl, .inl ⟨rfl, rfl⟩⟩ ⟨w2.heap.size, 0, none⟩ 1 1 [.int .i64 ((i : Int) + 1), .int .i64 (onB x full)] rfl rfl (by intro q u hq; match q, hq with | 0, hq => simp at hq; subst hq; simp [Addr.add, go_sem] | 1, hq => simp at hq; subst hq; simp [Addr.add, go_sem] | q + 2, hq => simp at hq) (by simp [Value.oneCell']) (by decide) (by decide) (by simp <;> omega) ?_; intro z w3 ho1 hg1 _; have D0 : w3.cell? ⟨w.heap.size, 0, none⟩ = some (.int .i64 x.k) := hg1.cell (by rw [World.cell?_alloc_past _ _ _ (by omega)]; exact d0) (by intro h; cases h); have D3 : w3.cell? ⟨w.heap.size, 3, none⟩ = some (.int .i64 x.t) := hg1.cell (by rw [World.cell?_alloc_past _ _ _ (by omega)]; exact d3) (by intro h; cases h); have hz3 := hg1.size; simp only [World.size_alloc] at hz3; have hB3 : Below w.heap.size w w3 := (hB2.alloc (by omega) _).grown hg1 (by simp <;> omega) (by intro k hk; cases hk); replace ho1 : w3.ownsRow w1.heap.size 81 2 z 1 (wayCells [(i + 1, onB x full)]) := by simpa [wayCells] using ho1) | (refine wpList_append_own _ rfl (.tmp 39) (.tmp 44) 82 rfl w1.heap.size 81 inf (.agg #[.int .i64 0, .int .i64 0]) 2 16 Tryz.underlying82 i1 i2 i3 i4 rfl (by decide) z 1 (wayCells [(i + 1, onB x full)]) rfl (ho1.alloc _) ⟨w3.heap.size, 0, none⟩ 1 1 [.int .i64 x.t, .int .i64 full] rfl rfl (by intro q u hq; match q, hq with | 0, hq => simp at hq; subst hq; simp [Addr.add, go_sem] | 1, hq => simp at hq; subst hq; simp [Addr.add, go_sem] | q + 2, hq => simp at hq) (by simp [Value.oneCell']) (by decide) (by decide) (by simp <;> omega) ?_; intro y w9 ho hg _))
        have hB9 : Below w.heap.size w w9 := (hB3.alloc (by omega) _).grown hg (by simp <;> omega) (by intro k hk; have := (ho1.lt k hk).1; omega)
        replace ho : w9.ownsRow w1.heap.size 81 2 y 2 (wayCells [(i + 1, onB x full), (x.t.toNat, full)]) := by simpa [wayCells, Int.toNat_of_nonneg ht.1] using ho
        go_wp2_with fail
        go_ret
        exact ⟨_, rfl, by rw [hL.out]; exact own_monoW ho (by omega), hB9⟩
      by_cases h5 : x.k = 5
      · have e8 : (x.k == 8) = false := by simp [h8]
        have e9 : (x.k == 9) = false := by simp [h5]
        have e10 : (x.k == 10) = false := by simp [h10]
        have e5 : (x.k == 5) = true := by simp [h5]
        have hk : Hid (x.k = 5) := h5
        clear h5
        have hL : Hid (waysL x i C.length full = [(i + 1, onB x full), (x.t.toNat, 1)]) := by show waysL x i C.length full = [(i + 1, onB x full), (x.t.toNat, 1)]; simp [waysL, nextW, toW, hk.out, hn]
        go_wp2_with (first | (refine wpList_append_own _ rfl (.tmp 23) (.tmp 31) 82 rfl w1.heap.size 81 inf (.agg #[.int .i64 0, .int .i64 0]) 2 16 Tryz.underlying82 i1 i2 i3 i4 rfl (by decide) (.slice none 0 0) 0 [] rfl ⟨rfl, .inl ⟨rfl, rfl⟩⟩ ⟨w2.heap.size, 0, none⟩ 1 1 [.int .i64 ((i : Int) + 1), .int .i64 (onB x full)] rfl rfl (by intro q u hq; match q, hq with | 0, hq => simp at hq; subst hq; simp [Addr.add, go_sem] | 1, hq => simp at hq; subst hq; simp [Addr.add, go_sem] | q + 2, hq => simp at hq) (by simp [Value.oneCell']) (by decide) (by decide) (by simp <;> omega) ?_; intro z w3 ho1 hg1 _; have D0 : w3.cell? ⟨w.heap.size, 0, none⟩ = some (.int .i64 x.k) := hg1.cell (by rw [World.cell?_alloc_past _ _ _ (by omega)]; exact d0) (by intro h; cases h); have D3 : w3.cell? ⟨w.heap.size, 3, none⟩ = some (.int .i64 x.t) := hg1.cell (by rw [World.cell?_alloc_past _ _ _ (by omega)]; exact d3) (by intro h; cases h); have hz3 := hg1.size; simp only [World.size_alloc] at hz3; have hB3 : Below w.heap.size w w3 := (hB2.alloc (by omega) _).grown hg1 (by simp <;> omega) (by intro k hk; cases hk); replace ho1 : w3.ownsRow w1.heap.size 81 2 z 1 (wayCells [(i + 1, onB x full)]) := by simpa [wayCells] using ho1) | (refine wpList_append_own _ rfl (.tmp 48) (.tmp 52) 82 rfl w1.heap.size 81 inf (.agg #[.int .i64 0, .int .i64 0]) 2 16 Tryz.underlying82 i1 i2 i3 i4 rfl (by decide) z 1 (wayCells [(i + 1, onB x full)]) rfl (ho1.alloc _) ⟨w3.heap.size, 0, none⟩ 1 1 [.int .i64 x.t, .int .i64 1] rfl rfl (by intro q u hq; match q, hq with | 0, hq => simp at hq; subst hq; simp [Addr.add, go_sem] | 1, hq => simp at hq; subst hq; simp [Addr.add, go_sem] | q + 2, hq => simp at hq) (by simp [Value.oneCell']) (by decide) (by decide) (by simp <;> omega) ?_; intro y w9 ho hg _))
        have hB9 : Below w.heap.size w w9 := (hB3.alloc (by omega) _).grown hg (by simp <;> omega) (by intro k hk; have := (ho1.lt k hk).1; omega)
        replace ho : w9.ownsRow w1.heap.size 81 2 y 2 (wayCells [(i + 1, onB x full), (x.t.toNat, 1)]) := by simpa [wayCells, Int.toNat_of_nonneg ht.1] using ho
        go_wp2_with fail
        go_ret
        exact ⟨_, rfl, by rw [hL.out]; exact own_monoW ho (by omega), hB9⟩
      have h9 : x.k ≠ 9 := by intro h; simp [endsB, h] at he
      have h14 : x.k ≠ 14 := by intro h; simp [endsB, h] at he
      have e8 : (x.k == 8) = false := by simp [h8]
      have e9 : (x.k == 9) = false := by simp [h9]
      have e10 : (x.k == 10) = false := by simp [h10]
      have e5 : (x.k == 5) = false := by simp [h5]
      have hL : Hid (waysL x i C.length full = [(i + 1, onB x full)]) := by show waysL x i C.length full = [(i + 1, onB x full)]; simp [waysL, nextW, toW, h8, h9, h10, h5, h14, hn]
      go_wp2_with (refine wpList_append_own _ rfl (.tmp 23) (.tmp 31) 82 rfl w1.heap.size 81 inf (.agg #[.int .i64 0, .int .i64 0]) 2 16 Tryz.underlying82 i1 i2 i3 i4 rfl (by decide) (.slice none 0 0) 0 [] rfl ⟨rfl, .inl ⟨rfl, rfl⟩⟩ ⟨w2.heap.size, 0, none⟩ 1 1 [.int .i64 ((i : Int) + 1), .int .i64 (onB x full)] rfl rfl (by intro q u hq; match q, hq with | 0, hq => simp at hq; subst hq; simp [Addr.add, go_sem] | 1, hq => simp at hq; subst hq; simp [Addr.add, go_sem] | q + 2, hq => simp at hq) (by simp [Value.oneCell']) (by decide) (by decide) (by simp <;> omega) ?_; intro z w3 ho1 hg1 _; have D0 : w3.cell? ⟨w.heap.size, 0, none⟩ = some (.int .i64 x.k) := hg1.cell (by rw [World.cell?_alloc_past _ _ _ (by omega)]; exact d0) (by intro h; cases h); have D3 : w3.cell? ⟨w.heap.size, 3, none⟩ = some (.int .i64 x.t) := hg1.cell (by rw [World.cell?_alloc_past _ _ _ (by omega)]; exact d3) (by intro h; cases h); have hz3 := hg1.size; simp only [World.size_alloc] at hz3; have hB3 : Below w.heap.size w w3 := (hB2.alloc (by omega) _).grown hg1 (by simp <;> omega) (by intro k hk; cases hk); replace ho1 : w3.ownsRow w1.heap.size 81 2 z 1 (wayCells [(i + 1, onB x full)]) := by simpa [wayCells] using ho1)
      go_ret
      exact ⟨_, rfl, by rw [hL.out]; exact own_monoW ho1 (by omega), hB3⟩
    · have hn' : ¬ ((i : Int) + 1 < (C.length : Int)) := by omega
      by_cases h8 : x.k = 8
      · have e8 : (x.k == 8) = true := by simp [h8]
        have hk : Hid (x.k = 8) := h8
        clear h8
        have hL : Hid (waysL x i C.length full = [(x.t.toNat, full)]) := by show waysL x i C.length full = [(x.t.toNat, full)]; simp [waysL, nextW, toW, hk.out, hn]
        go_wp2_with (refine wpList_append_own _ rfl (.tmp 39) (.tmp 44) 82 rfl w1.heap.size 81 inf (.agg #[.int .i64 0, .int .i64 0]) 2 16 Tryz.underlying82 i1 i2 i3 i4 rfl (by decide) (.slice none 0 0) 0 [] rfl ⟨rfl, .inl ⟨rfl, rfl⟩⟩ ⟨w1.heap.size, 0, none⟩ 1 1 [.int .i64 x.t, .int .i64 full] rfl rfl (by intro q u hq; match q, hq with | 0, hq => simp at hq; subst hq; simp [Addr.add, go_sem] | 1, hq => simp at hq; subst hq; simp [Addr.add, go_sem] | q + 2, hq => simp at hq) (by simp [Value.oneCell']) (by decide) (by decide) (by simp <;> omega) ?_; intro y w9 ho hg _)
        have hB9 : Below w.heap.size w w9 := (hB1.alloc (by omega) _).grown hg (by simp <;> omega) (by intro k hk; cases hk)
        replace ho : w9.ownsRow w1.heap.size 81 2 y 1 (wayCells [(x.t.toNat, full)]) := by simpa [wayCells, Int.toNat_of_nonneg ht.1] using ho
        go_wp2_with fail
        go_ret
        exact ⟨_, rfl, by rw [hL.out]; exact own_monoW ho (by omega), hB9⟩
      by_cases h10 : x.k = 10
      · have e8 : (x.k == 8) = false := by simp [h8]
        have e9 : (x.k == 9) = false := by simp [h10]
        have e10 : (x.k == 10) = true := by simp [h10]
        have hk : Hid (x.k = 10) := h10
        clear h10
        have hL : Hid (waysL x i C.length full = [(x.t.toNat, full)]) := by show waysL x i C.length full = [(x.t.toNat, full)]; simp [waysL, nextW, toW, hk.out, hn]
        go_wp2_with (refine wpList_append_own _ rfl (.tmp 39) (.tmp 44) 82 rfl w1.heap.size 81 inf (.agg #[.int .i64 0, .int .i64 0]) 2 16 Tryz.underlying82 i1 i2 i3 i4 rfl (by decide) (.slice none 0 0) 0 [] rfl ⟨rfl, .inl ⟨rfl, rfl⟩⟩ ⟨w1.heap.size, 0, none⟩ 1 1 [.int .i64 x.t, .int .i64 full] rfl rfl (by intro q u hq; match q, hq with | 0, hq => simp at hq; subst hq; simp [Addr.add, go_sem] | 1, hq => simp at hq; subst hq; simp [Addr.add, go_sem] | q + 2, hq => simp at hq) (by simp [Value.oneCell']) (by decide) (by decide) (by simp <;> omega) ?_; intro y w9 ho hg _)
        have hB9 : Below w.heap.size w w9 := (hB1.alloc (by omega) _).grown hg (by simp <;> omega) (by intro k hk; cases hk)
        replace ho : w9.ownsRow w1.heap.size 81 2 y 1 (wayCells [(x.t.toNat, full)]) := by simpa [wayCells, Int.toNat_of_nonneg ht.1] using ho
        go_wp2_with fail
        go_ret
        exact ⟨_, rfl, by rw [hL.out]; exact own_monoW ho (by omega), hB9⟩
      by_cases h5 : x.k = 5
      · have e8 : (x.k == 8) = false := by simp [h8]
        have e9 : (x.k == 9) = false := by simp [h5]
        have e10 : (x.k == 10) = false := by simp [h10]
        have e5 : (x.k == 5) = true := by simp [h5]
        have hk : Hid (x.k = 5) := h5
        clear h5
        have hL : Hid (waysL x i C.length full = [(x.t.toNat, 1)]) := by show waysL x i C.length full = [(x.t.toNat, 1)]; simp [waysL, nextW, toW, hk.out, hn]
        go_wp2_with (refine wpList_append_own _ rfl (.tmp 48) (.tmp 52) 82 rfl w1.heap.size 81 inf (.agg #[.int .i64 0, .int .i64 0]) 2 16 Tryz.underlying82 i1 i2 i3 i4 rfl (by decide) (.slice none 0 0) 0 [] rfl ⟨rfl, .inl ⟨rfl, rfl⟩⟩ ⟨w1.heap.size, 0, none⟩ 1 1 [.int .i64 x.t, .int .i64 1] rfl rfl (by intro q u hq; match q, hq with | 0, hq => simp at hq; subst hq; simp [Addr.add, go_sem] | 1, hq => simp at hq; subst hq; simp [Addr.add, go_sem] | q + 2, hq => simp at hq) (by simp [Value.oneCell']) (by decide) (by decide) (by simp <;> omega) ?_; intro y w9 ho hg _)
        have hB9 : Below w.heap.size w w9 := (hB1.alloc (by omega) _).grown hg (by simp <;> omega) (by intro k hk; cases hk)
        replace ho : w9.ownsRow w1.heap.size 81 2 y 1 (wayCells [(x.t.toNat, 1)]) := by simpa [wayCells, Int.toNat_of_nonneg ht.1] using ho
        go_wp2_with fail
        go_ret
        exact ⟨_, rfl, by rw [hL.out]; exact own_monoW ho (by omega), hB9⟩
      have h9 : x.k ≠ 9 := by intro h; simp [endsB, h] at he
      have h14 : x.k ≠ 14 := by intro h; simp [endsB, h] at he
      have e8 : (x.k == 8) = false := by simp [h8]
      have e9 : (x.k == 9) = false := by simp [h9]
      have e10 : (x.k == 10) = false := by simp [h10]
      have e5 : (x.k == 5) = false := by simp [h5]
      have hL : Hid (waysL x i C.length full = []) := by show waysL x i C.length full = []; simp [waysL, nextW, toW, h8, h9, h10, h5, hn]
      go_wp2_with fail
      go_ret
      exact ⟨_, rfl, by rw [hL.out]; exact ⟨rfl, .inl ⟨rfl, rfl⟩⟩, hB1⟩
end Go.Proofs.YtjhpaoadpcnlnaaGreatDoor
