/-
  spec.OpUses over this translation: the slots that an ok step reads, in a row of their own; nothing that was there turns.
  Rows of numbers over this translation, of any length: what spec.l11Among, slices.Contains, laws.eqIntS, markIntS and heldIntS answer on them.
  A row of bits in memory, over this translation. No condition.
  spec.l3Bit, l3Has, l3With, l3Both, l3Fills and l3Merge over this translation.
-/
import Derived.Test.YtjhpaoadpcnlnaaGreatDoorZa08
import Derived.Test.YtjhpaoadpcnlnaaGreatDoorZa01
import Derived.OwnWalk
import Derived.Laws.OwnMore
import Derived.Test.YtjhpaoadpcnlnaaGreatDoorZa02
namespace Go.Proofs.YtjhpaoadpcnlnaaGreatDoor
open Go.ChangeShapes Go.WideShapes Go.ChangeAt Go.RowKit Go.Joins
/-- which slots a step reads -/
def usesL (k r s : Int) : List Int := if k = 2 then [s] else if k = 3 ∨ k = 6 then [r, s] else if k = 10 ∨ k = 11 ∨ k = 12 ∨ k = 14 then [r] else []
def usesOf (k r s t vk vn : Int) : List Int := if opB k r s t vk vn = true then usesL k r s else []
theorem usesOf_bad {k r s t vk vn : Int} (h : opB k r s t vk vn = false) : usesOf k r s t vk vn = [] := by rw [usesOf, if_neg (by rw [h]; decide)]
theorem usesOf_ok {k r s t vk vn : Int} (h : opB k r s t vk vn = true) : usesOf k r s t vk vn = usesL k r s := by rw [usesOf, if_pos h]
/-- a row of numbers, new since w -/
def NewRow (w : World) (L : List Int) (e : Ending) (w' : World) : Prop :=
  ∃ b, e = .returned (.slice (some ⟨b, 0, none⟩) L.length L.length) ∧ w.heap.size ≤ b ∧ b < w'.heap.size ∧ (∀ i, i < L.length → w'.cell? ⟨b, i, none⟩ = some (.int .i64 (L.getD i 0))) ∧ Below w.heap.size w w'
set_option maxHeartbeats 4000000 in
theorem l2Uses_any (k r s t vk vn : Int) (w : World) (h1 : 1 ≤ k) (h2 : k ≤ 14) :
    Calls Tryz.prog 73 #[.agg #[.int .i64 k, .int .i64 r, .int .i64 s, .int .i64 t, .int .i64 vk, .int .i64 vn]] w fun e w' => NewRow w (usesL k r s) e w' := by
  rcases kinds14 h1 h2 with rfl | rfl | rfl | rfl | rfl | rfl | rfl | rfl | rfl | rfl | rfl | rfl | rfl | rfl <;>
  · go_enter Tryz.func73, Tryz.ntmps73
    go_wp2_with fail
    go_ret
    refine ⟨_, rfl, ?_, ?_, ?_, ?_⟩
    · simp
    · simp
    · intro i hi
      have h3 : i = 0 ∨ i = 1 ∨ 2 ≤ i := (by omega)
      rcases h3 with rfl | rfl | h3
      · first | (simp [usesL] at hi; done) | (simp [usesL, go_sem]; done)
      · first | (simp [usesL] at hi; done) | (simp [usesL, go_sem]; done)
      · simp [usesL] at hi <;> omega
    · exact ((Below.refl _ _).alloc (Nat.le_refl _) _).alloc (by simp) _
end Go.Proofs.YtjhpaoadpcnlnaaGreatDoor
namespace Go.Proofs.YtjhpaoadpcnlnaaGreatDoor
open Go.ChangeShapes Go.WideShapes Go.ChangeAt Go.RowKit Go.Joins
/-- numbers in memory, below block S: none, or a row of them -/
def Ints (S : Nat) (w : World) (v : Value) (L : List Int) : Prop :=
  ∃ ao cap, v = .slice ao L.length cap ∧ (L = [] ∨ ∃ b o, ao = some ⟨b, o, none⟩ ∧ b < S ∧ ∀ i (h : i < L.length), w.cell? ⟨b, o + i, none⟩ = some (.int .i64 L[i]))
theorem Ints.below {S : Nat} {w w' : World} {v : Value} {L : List Int} (h : Ints S w v L) (hb : Below S w w') : Ints S w' v L := by
  obtain ⟨ao, cap, hv, h⟩ := h
  refine ⟨ao, cap, hv, h.imp id ?_⟩
  rintro ⟨b, o, ha, hl, hc⟩
  exact ⟨b, o, ha, hl, fun i hi => (hb.cell (p := ⟨b, o + i, none⟩) hl).trans (hc i hi)⟩
theorem Ints.mono {S T : Nat} {w : World} {v : Value} {L : List Int} (h : Ints S w v L) (hs : S ≤ T) : Ints T w v L := by
  obtain ⟨ao, cap, hv, h⟩ := h
  refine ⟨ao, cap, hv, h.imp id ?_⟩
  rintro ⟨b, o, ha, hl, hc⟩
  exact ⟨b, o, ha, by omega, hc⟩
/-- numbers in a row of one's own -/
abbrev Owns (w : World) (B : Nat) (v : Value) (L : List Int) : Prop := w.ownsRow B 3 1 v L.length (L.map (Value.int .i64))
theorem Owns.ints {w : World} {B : Nat} {v : Value} {L : List Int} (h : Owns w B v L) : Ints w.heap.size w v L := by
  rcases h.2 with ⟨rfl, hn⟩ | ⟨g, cap, cur, rfl, hg, hh, _⟩
  · have : L = [] := List.eq_nil_of_length_eq_zero hn
    subst this
    exact ⟨none, 0, rfl, .inl rfl⟩
  · refine ⟨_, cap, rfl, .inr ⟨g, 0, rfl, ?_, fun i hi => ?_⟩⟩
    · rcases Decidable.em (g < w.heap.size) with h | h
      · exact h
      · rw [Array.getElem?_eq_none (by omega)] at hh; cases hh
    · have := World.ownsRow.cellAt (w := w) (base := B) (e := 3) (size := 1) (g := g) (cap := cap) h i (by omega)
      rw [Nat.zero_add, this, List.getElem?_map, List.getElem?_eq_getElem hi]; rfl
theorem Owns.keep {w w' : World} {B : Nat} {v : Value} {L : List Int} (h : Owns w B v L) {row : Option Nat} (hg : w.grownBy w' row) (hr : ∀ k, row = some k → k < B) : Owns w' B v L :=
  World.ownsRow.kept h hg (by
    cases hv : v.ownBlock with
    | none => exact .inl rfl
    | some k => exact .inr fun e => by have := (World.ownsRow.lt h k hv).1; have := hr k e.symm; omega)
theorem Owns.below {w w' : World} {B : Nat} {v : Value} {L : List Int} (h : Owns w B v L) (hb : Below w.heap.size w w') : Owns w' B v L :=
  h.keep (row := none) ⟨hb.os, hb.tape, hb.output, hb.size, fun k hk _ => hb.block k hk⟩ (fun k e => by cases e)
theorem Owns.mono {w : World} {A B : Nat} {v : Value} {L : List Int} (h : Owns w B v L) (hb : A ≤ B) : Owns w A v L :=
  ⟨h.1, h.2.imp id fun ⟨g, cap, cur, h1, h2, h3⟩ => ⟨g, cap, cur, h1, Nat.le_trans hb h2, h3⟩⟩
theorem info_intI : ∃ i, Tryz.prog.info? 3 = some i ∧ i.zero = some (.int .i64 0) ∧ i.size = 1 ∧ i.bytes = 8 :=
  ⟨(Tryz.prog.info? 3).get (by kernel_rfl), (Option.some_get _).symm, by kernel_rfl, by kernel_rfl, by kernel_rfl⟩
def hasI (L : List Int) (n : Int) : Bool := L.contains n
theorem hasI_yes {L : List Int} {n : Int} (h : n ∈ L) : hasI L n = true := by unfold hasI; rw [List.contains_iff_mem]; exact h
theorem hasI_no {L : List Int} {n : Int} (h : ∀ j (h : j < L.length), L[j] ≠ n) : hasI L n = false := by
  unfold hasI; rw [← Bool.not_eq_true, List.contains_iff_mem]; intro hm; obtain ⟨j, hj, e⟩ := List.getElem_of_mem hm; exact h j hj e
set_option maxHeartbeats 1000000 in
theorem among_any (S : Nat) (L : List Int) (v : Value) (n : Int) (w : World) (hl : L.length ≤ 1048576) (h : Ints S w v L) :
    Calls Tryz.prog 69 #[v, .int .i64 n] w fun e w' => e = .returned (.bool (hasI L n)) ∧ w' = w := by
  obtain ⟨ao, cap, rfl, h⟩ := h
  rcases h with rfl | ⟨b, o, rfl, _, hc⟩
  · go_enter Tryz.func69, Tryz.ntmps69
    go_wp2_with fail
    refine wp_loop_rounds 1 ?_
    rw [rounds_succ]
    go_wp2_with fail
    go_ret
    exact ⟨rfl, rfl⟩
  · go_enter Tryz.func69, Tryz.ntmps69
    go_wp2_with fail
    go_loop [5] (fun i => ∃ k : Nat, k ≤ L.length ∧ i = .int .i64 k ∧ ∀ j (h : j < L.length), j < k → L[j] ≠ n) (fun i => L.length - (intOf i).toNat)
    case atStart => exact ⟨0, Nat.zero_le _, rfl, fun j _ h => by omega⟩
    case round =>
      obtain ⟨k, hk, rfl, hU⟩ := hrel
      by_cases hlt : k < L.length
      · have c0 := hc k hlt
        obtain ⟨x, hx0⟩ : ∃ x, x = L[k] := ⟨_, rfl⟩
        rw [← hx0] at c0
        have hx : Hid (x = L[k]) := hx0
        clear hx0 hc
        by_cases e0 : x = n
        · have e' : (x == n) = true := by simp [e0]
          have e : Hid (x = n) := e0
          clear e0
          go_wp2_with fail
          go_ret
          have : hasI L n = true := hasI_yes (by rw [← e.out, hx.out]; exact List.getElem_mem hlt)
          exact ⟨by rw [this]; rfl, rfl⟩
        · have e' : (x == n) = false := by simp [e0]
          have e : Hid (¬ x = n) := e0
          clear e0
          go_wp2_with fail
          go_round
          case rel => exact ⟨k + 1, by omega, by go_num, fun j hj hjk => by
            by_cases h : j < k
            · exact hU j hj h
            · have : j = k := by omega
              subst this
              rw [← hx.out]; exact e.out⟩
          case measure => simp [intOf]; omega
      · have e : k = L.length := by omega
        subst e
        go_wp2_with fail
        go_ret
        have : hasI L n = false := hasI_no fun j hj => hU j hj hj
        exact ⟨by rw [this]; rfl, rfl⟩
set_option maxHeartbeats 1000000 in
theorem index_any (S : Nat) (L : List Int) (v : Value) (n : Int) (w : World) (hl : L.length ≤ 1048576) (h : Ints S w v L) :
    Calls Tryz.prog 107 #[v, .int .i64 n] w fun e w' => ∃ m : Int, e = .returned (.int .i64 m) ∧ decide (0 ≤ m) = hasI L n ∧ w' = w := by
  obtain ⟨ao, cap, rfl, h⟩ := h
  rcases h with rfl | ⟨b, o, rfl, _, hc⟩
  · go_enter Tryz.func107, Tryz.ntmps107
    go_wp2_with fail
    refine wp_loop_rounds 1 ?_
    rw [rounds_succ]
    go_wp2_with fail
    go_ret
    exact ⟨_, rfl, rfl, rfl⟩
  · go_enter Tryz.func107, Tryz.ntmps107
    go_wp2_with fail
    go_loop [8] (fun i => ∃ k : Nat, k ≤ L.length ∧ i = .int .i64 k ∧ ∀ j (h : j < L.length), j < k → L[j] ≠ n) (fun i => L.length - (intOf i).toNat)
    case atStart => exact ⟨0, Nat.zero_le _, rfl, fun j _ h => by omega⟩
    case round =>
      obtain ⟨k, hk, rfl, hU⟩ := hrel
      by_cases hlt : k < L.length
      · have c0 := hc k hlt
        obtain ⟨x, hx0⟩ : ∃ x, x = L[k] := ⟨_, rfl⟩
        rw [← hx0] at c0
        have hx : Hid (x = L[k]) := hx0
        clear hx0 hc
        by_cases e0 : n = x
        · have e' : (n == x) = true := by simp [e0]
          have e : Hid (n = x) := e0
          clear e0
          go_wp2_with fail
          go_ret
          have : hasI L n = true := hasI_yes (by rw [e.out, hx.out]; exact List.getElem_mem hlt)
          exact ⟨_, rfl, by rw [this]; simp, rfl⟩
        · have e' : (n == x) = false := by simp [e0]
          have e : Hid (¬ n = x) := e0
          clear e0
          go_wp2_with fail
          go_round
          case rel => exact ⟨k + 1, by omega, by go_num, fun j hj hjk => by
            by_cases h : j < k
            · exact hU j hj h
            · have : j = k := by omega
              subst this
              rw [← hx.out]; exact fun h => e.out h.symm⟩
          case measure => simp [intOf]; omega
      · have e : k = L.length := by omega
        subst e
        go_wp2_with fail
        go_ret
        have : hasI L n = false := hasI_no fun j hj => hU j hj hj
        exact ⟨_, rfl, by rw [this]; rfl, rfl⟩
theorem contains_any (S : Nat) (L : List Int) (v : Value) (n : Int) (w : World) (hl : L.length ≤ 1048576) (h : Ints S w v L) :
    Calls Tryz.prog 70 #[v, .int .i64 n] w fun e w' => e = .returned (.bool (hasI L n)) ∧ w' = w := by
  go_enter Tryz.func70, Tryz.ntmps70
  go_wp2_with fail
  refine (index_any S L v n _ hl h).mono ?_
  rintro e w1 ⟨m, rfl, hm, rfl⟩
  have hm' : Hid (decide (0 ≤ m) = hasI L n) := hm
  clear hm
  go_wp2_with fail
  go_ret
  exact ⟨by rw [← hm'.out]; rfl, rfl⟩
end Go.Proofs.YtjhpaoadpcnlnaaGreatDoor
namespace Go.Proofs.YtjhpaoadpcnlnaaGreatDoor
open Go.ChangeShapes Go.WideShapes Go.ChangeAt Go.RowKit Go.Joins
/-- the row of bits in block F -/
abbrev Bits (w : World) (F : Nat) (L : List Int) : Prop := w.ownsRow F 3 1 (.slice (some ⟨F, 0, none⟩) L.length L.length) L.length (L.map (Value.int .i64))
theorem Bits.cell {w : World} {F : Nat} {L : List Int} (h : Bits w F L) {i : Nat} (hi : i < L.length) : w.cell? ⟨F, i, none⟩ = some (.int .i64 (atV L i)) := by
  rw [World.ownsRow.cellAt h i (by omega), List.getElem?_map, List.getElem?_eq_getElem hi]
  simp [atV, List.getD_eq_getElem?_getD, List.getElem?_eq_getElem hi]
theorem Bits.free {w : World} {F : Nat} {L : List Int} (h : Bits w F L) (i : Nat) : w.frozen? ⟨F, i, none⟩ = false := World.ownsRow.frozenAt h i
theorem Bits.set {w : World} {F : Nat} {L : List Int} (h : Bits w F L) (i : Nat) (x : Int) : Bits (w.setCell ⟨F, i, none⟩ (.int .i64 x)) F (L.set i x) := by
  have := (World.ownsRow.stored h i (.int .i64 x)).1
  rw [← List.map_set] at this
  simpa [Bits] using this
theorem Bits.keep {w w' : World} {F : Nat} {L : List Int} (h : Bits w F L) (hk : w'.heap[F]? = w.heap[F]?) : Bits w' F L := by
  obtain ⟨h1, h2⟩ := h
  refine ⟨h1, h2.imp id ?_⟩
  rintro ⟨g, cap, cur, hv, hg, hh, hr⟩
  have e : g = F := by simp at hv; exact hv.1.symm
  subst e
  exact ⟨g, cap, cur, hv, hg, hk.trans hh, hr⟩
theorem Bits.lt {w : World} {F : Nat} {L : List Int} (h : Bits w F L) : F < w.heap.size := (World.ownsRow.lt h F rfl).2
end Go.Proofs.YtjhpaoadpcnlnaaGreatDoor
namespace Go.Proofs.YtjhpaoadpcnlnaaGreatDoor
open Go.ChangeShapes Go.WideShapes Go.ChangeAt Go.RowKit Go.Joins
theorem bit_four (r : Int) : bitOf r = 1 ∨ bitOf r = 2 ∨ bitOf r = 4 ∨ bitOf r = 8 := by
  unfold bitOf
  split
  · exact .inl rfl
  · split
    · exact .inr (.inl rfl)
    · split
      · exact .inr (.inr (.inl rfl))
      · exact .inr (.inr (.inr rfl))
theorem l3Bit_any (r : Int) (w : World) (h0 : 0 ≤ r) (h3 : r ≤ 3) : Calls Tryz.prog 109 #[.int .i64 r] w fun e w' => e = .returned (.int .i64 (bitOf r)) ∧ Below w.heap.size w w' := by
  have h : r = 0 ∨ r = 1 ∨ r = 2 ∨ r = 3 := by omega
  rcases h with rfl | rfl | rfl | rfl <;>
  · go_enter Tryz.func109, Tryz.ntmps109
    go_wp2_with fail
    go_ret
    exact ⟨rfl, (Below.refl _ _).alloc (Nat.le_refl _) _⟩
/-- whether bits have that of a slot -/
def hasB (x r : Int) : Bool := x / bitOf r % 2 == 1
theorem l3Has_any (x r : Int) (w : World) (hx0 : 0 ≤ x) (hx : x ≤ 15) (h0 : 0 ≤ r) (h3 : r ≤ 3) : Calls Tryz.prog 74 #[.int .i64 x, .int .i64 r] w fun e w' => e = .returned (.bool (hasB x r)) ∧ Below w.heap.size w w' := by
  go_enter Tryz.func74, Tryz.ntmps74
  go_wp2_with fail
  refine (l3Bit_any r _ h0 h3).mono ?_
  rintro e w1 ⟨rfl, hb1⟩
  have hH : Hid (hasB x r = (x / bitOf r % 2 == 1)) := rfl
  have hb := bit_four r
  generalize bitOf r = b at *
  rcases hb with rfl | rfl | rfl | rfl
  all_goals
    go_wp2_with fail
    go_ret
    exact ⟨by rw [hH.out]; first | rfl | (rw [Int.ediv_one]; rfl), hb1⟩
theorem with_or {x r : Int} (hx0 : 0 ≤ x) (hx : x ≤ 15) (h0 : 0 ≤ r) (h3 : r ≤ 3) : (if hasB x r = true then x else x + bitOf r) = orB x (bitOf r) := by
  have key : ∀ i : Fin 17, ∀ j : Fin 4, 0 ≤ (i.val : Int) - 1 → (if hasB ((i.val : Int) - 1) (j.val : Int) = true then (i.val : Int) - 1 else (i.val : Int) - 1 + bitOf (j.val : Int)) = orB ((i.val : Int) - 1) (bitOf (j.val : Int)) := by decide +kernel
  obtain ⟨i, rfl⟩ := bd_fin (x := x) ⟨by omega, hx⟩
  have := key i ⟨r.toNat, by omega⟩ hx0
  have e : ((r.toNat : Nat) : Int) = r := by omega
  simpa [e] using this
theorem l3With_any (x r : Int) (w : World) (hx0 : 0 ≤ x) (hx : x ≤ 15) (h0 : 0 ≤ r) (h3 : r ≤ 3) : Calls Tryz.prog 127 #[.int .i64 x, .int .i64 r] w fun e w' => e = .returned (.int .i64 (orB x (bitOf r))) ∧ Below w.heap.size w w' := by
  have hor : Hid ((if hasB x r = true then x else x + bitOf r) = orB x (bitOf r)) := with_or hx0 hx h0 h3
  go_enter Tryz.func127, Tryz.ntmps127
  go_wp2_with fail
  refine (l3Has_any x r _ hx0 hx h0 h3).mono ?_
  rintro e w1 ⟨rfl, hb1⟩
  cases hh : hasB x r with
  | true =>
    go_wp2_with fail
    go_ret
    exact ⟨by rw [← hor.out, if_pos hh]; rfl, hb1⟩
  | false =>
    go_wp2_with fail
    refine (l3Bit_any r _ h0 h3).mono ?_
    rintro e w2 ⟨rfl, hb2⟩
    have hbb := bit_bd r
    go_wp2_with fail
    go_ret
    exact ⟨by rw [← hor.out, if_neg (by rw [hh]; decide)]; rfl, hb1.trans (hb2.mono hb1.size)⟩
/-- the bits that both have, of the first slots -/
def bothTo (a b : Int) : Nat → Int
  | 0 => 0
  | k + 1 => bothTo a b k + if (hasB a (k : Int) && hasB b (k : Int)) = true then bitOf (k : Int) else 0
theorem both_meet {a b : Int} (ha0 : 0 ≤ a) (ha : a ≤ 15) (hb0 : 0 ≤ b) (hb : b ≤ 15) : bothTo a b 4 = meet a b := by
  have key : ∀ i j : Fin 17, 0 ≤ (i.val : Int) - 1 → 0 ≤ (j.val : Int) - 1 → bothTo ((i.val : Int) - 1) ((j.val : Int) - 1) 4 = meet ((i.val : Int) - 1) ((j.val : Int) - 1) := by decide +kernel
  obtain ⟨i, rfl⟩ := bd_fin (x := a) ⟨by omega, ha⟩
  obtain ⟨j, rfl⟩ := bd_fin (x := b) ⟨by omega, hb⟩
  exact key i j ha0 hb0
theorem both_bd (a b : Int) : ∀ k : Nat, 0 ≤ bothTo a b k ∧ bothTo a b k ≤ 15 * (k : Int)
  | 0 => by simp [bothTo]
  | k + 1 => by
    have ih := both_bd a b k
    have := bit_bd (k : Int)
    unfold bothTo
    split <;> omega
set_option maxHeartbeats 2000000 in
theorem l3Both_any (a b : Int) (w : World) (ha : Bd a) (hb0 : 0 ≤ b) (hb : b ≤ 15) : Calls Tryz.prog 139 #[.int .i64 a, .int .i64 b] w fun e w' => e = .returned (.int .i64 (meet a b)) ∧ Below w.heap.size w w' := by
  obtain ⟨ha1, ha2⟩ := ha
  by_cases h0 : a < 0
  · have e : Hid (meet a b = b) := by show meet a b = b; unfold meet; rw [if_pos h0]
    go_enter Tryz.func139, Tryz.ntmps139
    go_wp2_with fail
    go_ret
    exact ⟨by rw [e.out]; rfl, Below.refl _ _⟩
  · have hm : Hid (bothTo a b 4 = meet a b) := both_meet (by omega) ha2 hb0 hb
    go_enter Tryz.func139, Tryz.ntmps139
    go_wp2_with fail
    go_loopw [5, 6] (fun x i wr => ∃ k : Nat, k ≤ 4 ∧ i = .int .i64 k ∧ x = .int .i64 (bothTo a b k) ∧ Below w.heap.size w wr) (fun _ i _ => 4 - (intOf i).toNat)
    case atStart => exact ⟨0, by decide, rfl, rfl, Below.refl _ _⟩
    case round =>
      obtain ⟨k, hk, rfl, rfl, hB⟩ := hrel
      have hbk := both_bd a b k
      have hzr := hB.size
      by_cases hlt : k < 4
      · have hlt' : (k : Int) ≤ 3 := by omega
        have hs : ∀ c, (hasB a (k : Int) && hasB b (k : Int)) = c → Hid (bothTo a b (k + 1) = bothTo a b k + if c = true then bitOf (k : Int) else 0) := by
          intro c hc; show bothTo a b (k + 1) = _; rw [bothTo, hc]
        have hbb := bit_bd (k : Int)
        go_wp2_with fail
        refine (l3Has_any a (k : Int) _ (by omega) ha2 (by omega) hlt').mono ?_
        rintro e w1 ⟨rfl, hb1⟩
        have hB1 : Below w.heap.size w w1 := hB.trans (hb1.mono hzr)
        have hz1 := hb1.size
        clear hb1
        cases h1 : hasB a (k : Int) with
        | false =>
          have hs' := hs false (by rw [h1]; rfl)
          clear hs
          generalize bothTo a b k = x0 at *
          go_wp2_with fail
          go_roundw
          case rel => exact ⟨k + 1, by omega, by go_num, by rw [hs'.out]; simp, hB1⟩
          case measure => simp [intOf]; omega
        | true =>
          go_wp2_with fail
          refine (l3Has_any b (k : Int) _ hb0 hb (by omega) hlt').mono ?_
          rintro e w2 ⟨rfl, hb2⟩
          have hB2 : Below w.heap.size w w2 := hB1.trans (hb2.mono (by omega))
          have hz2 := hb2.size
          clear hb2
          cases h2 : hasB b (k : Int) with
          | false =>
            have hs' := hs false (by rw [h1, h2]; rfl)
            clear hs
            generalize bothTo a b k = x0 at *
            go_wp2_with fail
            go_roundw
            case rel => exact ⟨k + 1, by omega, by go_num, by rw [hs'.out]; simp, hB2⟩
            case measure => simp [intOf]; omega
          | true =>
            have hs' := hs true (by rw [h1, h2]; rfl)
            clear hs
            go_wp2_with fail
            refine (l3Bit_any (k : Int) _ (by omega) hlt').mono ?_
            rintro e w3 ⟨rfl, hb3⟩
            have hB3 : Below w.heap.size w w3 := hB2.trans (hb3.mono (by omega))
            clear hb3
            generalize bothTo a b k = x0 at *
            generalize bitOf (k : Int) = y0 at *
            go_wp2_with fail
            go_roundw
            case rel => exact ⟨k + 1, by omega, by go_num, by rw [hs'.out]; simp, hB3⟩
            case measure => simp [intOf]; omega
      · have e : k = 4 := by omega
        subst e
        rw [hm.out] at *
        go_wp2_with fail
        go_ret
        exact ⟨rfl, hB⟩
set_option maxHeartbeats 1000000 in
theorem l3Fills_any (k : Int) (w : World) (h1 : 1 ≤ k) (h2 : k ≤ 14) : Calls Tryz.prog 126 #[.int .i64 k] w fun e w' => e = .returned (.bool (fillsB k)) ∧ w' = w := by
  rcases kinds14 h1 h2 with rfl | rfl | rfl | rfl | rfl | rfl | rfl | rfl | rfl | rfl | rfl | rfl | rfl | rfl <;>
  · go_enter Tryz.func126, Tryz.ntmps126
    go_wp2_with fail
    go_ret
    exact ⟨rfl, rfl⟩
theorem merge_len (V : List Int) (p : Nat × Int) : (mergeV V p).length = V.length := by unfold mergeV; split <;> simp
set_option maxHeartbeats 2000000 in
theorem l3Merge_any (F n : Nat) (V : List Int) (hn : V.length = n) (i : Nat) (y : Int) (w : World) (hF : Bits w F V) (hi : i < V.length) (hx : Bd (atV V i)) (hy0 : 0 ≤ y) (hy : y ≤ 15) :
    Calls Tryz.prog 128 #[.slice (some ⟨F, 0, none⟩) n n, .int .i64 i, .int .i64 y] w fun e w' => e = .returned (.bool (mergeB V (i, y))) ∧ Bits w' F (mergeV V (i, y)) ∧ But F w w' := by
  subst hn
  have c0 := hF.cell hi
  have f0 := hF.free i
  have hlt := hF.lt
  have hii : (i : Int) < (V.length : Int) := by omega
  go_enter Tryz.func128, Tryz.ntmps128
  go_wp2_with fail
  refine (l3Both_any _ _ _ hx hy0 hy).mono ?_
  rintro e w1 ⟨rfl, hb1⟩
  have c1 : w1.cell? ⟨F, i, none⟩ = some (.int .i64 (atV V i)) := (hb1.cell (p := ⟨F, i, none⟩) hlt).trans c0
  have f1 : w1.frozen? ⟨F, i, none⟩ = false := (hb1.frozen (p := ⟨F, i, none⟩) hlt).trans f0
  have hF1 : Hid (Bits w1 F V) := hF.keep (hb1.block F hlt)
  have hM : Hid (mergeV V (i, y) = (if meet (atV V i) y = atV V i then V else V.set i (meet (atV V i) y)) ∧ mergeB V (i, y) = !(meet (atV V i) y == atV V i)) := ⟨rfl, rfl⟩
  clear c0 f0 hF
  generalize atV V i = x at *
  generalize meet x y = m at *
  by_cases he : m = x
  · have he' : (m == x) = true := by simp [he]
    have hM2 : Hid (mergeV V (i, y) = V ∧ mergeB V (i, y) = false) := by
      refine ⟨by rw [hM.out.1, if_pos he], by rw [hM.out.2, he']; rfl⟩
    clear he
    go_wp2_with fail
    go_ret
    exact ⟨by rw [hM2.out.2]; rfl, by rw [hM2.out.1]; exact hF1.out, But.of_below hb1⟩
  · have he' : (m == x) = false := by simp [he]
    have hM2 : Hid (mergeV V (i, y) = V.set i m ∧ mergeB V (i, y) = true) := by
      refine ⟨by rw [hM.out.1, if_neg he], by rw [hM.out.2, he']; rfl⟩
    clear he
    go_wp2_with fail
    go_ret
    exact ⟨by rw [hM2.out.2]; rfl, by rw [hM2.out.1]; exact hF1.out.set i m, (But.of_below (R := F) hb1).setCell (p := ⟨F, i, none⟩) rfl _⟩
theorem l3Merge_out (F n : Nat) (i : Nat) (y : Int) (w : World) (hi : n ≤ i) :
    Calls Tryz.prog 128 #[.slice (some ⟨F, 0, none⟩) n n, .int .i64 i, .int .i64 y] w fun e w' => e = .returned (.bool false) ∧ w' = w := by
  have hii : (n : Int) ≤ (i : Int) := by omega
  go_enter Tryz.func128, Tryz.ntmps128
  go_wp2_with fail
  go_ret
  exact ⟨rfl, rfl⟩
end Go.Proofs.YtjhpaoadpcnlnaaGreatDoor
