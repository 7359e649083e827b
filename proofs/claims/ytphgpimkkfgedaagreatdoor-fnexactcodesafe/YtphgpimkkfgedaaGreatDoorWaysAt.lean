/-
  Ways in memory, over this translation; the places to which they come, each once. No condition.
-/
import Derived.Test.YtphgpimkkfgedaaGreatDoorWays
import Derived.Test.YtphgpimkkfgedaaGreatDoorReach
import Derived.Test.YtphgpimkkfgedaaGreatDoorInts
namespace Go.Proofs.YtphgpimkkfgedaaGreatDoor
open Go.ChangeShapes Go.WideShapes Go.ChangeAt Go.RowKit Go.Joins
def WaysAt (S : Nat) (w : World) (v : Value) (L : List (Nat × Int)) : Prop :=
  ∃ ao cap, v = .slice ao L.length cap ∧ L.length ≤ cap ∧ (L = [] ∨ ∃ b o, ao = some ⟨b, o, none⟩ ∧ b < S ∧ ∀ i (h : i < L.length), w.cell? ⟨b, o + i * 2, none⟩ = some (.int .i64 (L[i].1 : Int)) ∧ w.cell? ⟨b, o + i * 2 + 1, none⟩ = some (.int .i64 L[i].2))
theorem WaysAt.below {S : Nat} {w w' : World} {v : Value} {L : List (Nat × Int)} (h : WaysAt S w v L) (hb : Below S w w') : WaysAt S w' v L := by
  obtain ⟨ao, cap, hv, hlc, h⟩ := h
  refine ⟨ao, cap, hv, hlc, h.imp id ?_⟩
  rintro ⟨b, o, ha, hl, hc⟩
  exact ⟨b, o, ha, hl, fun i hi => ⟨(hb.cell (p := ⟨b, o + i * 2, none⟩) hl).trans (hc i hi).1, (hb.cell (p := ⟨b, o + i * 2 + 1, none⟩) hl).trans (hc i hi).2⟩⟩
theorem wayCells_at : ∀ (L : List (Nat × Int)) (i : Nat) (h : i < L.length), (wayCells L)[i * 2]? = some (.int .i64 (L[i].1 : Int)) ∧ (wayCells L)[i * 2 + 1]? = some (.int .i64 L[i].2)
  | p :: L, 0, _ => ⟨rfl, rfl⟩
  | p :: L, i + 1, h => by
    have ih := wayCells_at L i (by simpa using h)
    have e1 : (i + 1) * 2 = i * 2 + 2 := by omega
    rw [e1]
    exact ih
theorem OwnsW.at {w : World} {B : Nat} {v : Value} {L : List (Nat × Int)} (h : w.ownsRow B 45 2 v L.length (wayCells L)) : WaysAt w.heap.size w v L := by
  rcases h.2 with ⟨rfl, hn⟩ | ⟨g, cap, cur, rfl, hg, hh, hlc, _⟩
  · have : L = [] := List.eq_nil_of_length_eq_zero hn
    subst this
    exact ⟨none, 0, rfl, Nat.le_refl _, .inl rfl⟩
  · refine ⟨_, cap, rfl, hlc, .inr ⟨g, 0, rfl, ?_, fun i hi => ?_⟩⟩
    · rcases Decidable.em (g < w.heap.size) with h | h
      · exact h
      · rw [Array.getElem?_eq_none (by omega)] at hh; cases hh
    · have c0 := World.ownsRow.cellAt (w := w) (base := B) (e := 45) (size := 2) (g := g) (cap := cap) h (i * 2) (by omega)
      have c1 := World.ownsRow.cellAt (w := w) (base := B) (e := 45) (size := 2) (g := g) (cap := cap) h (i * 2 + 1) (by omega)
      have k := wayCells_at L i hi
      exact ⟨by rw [Nat.zero_add, c0]; exact k.1, by rw [Nat.zero_add, c1]; exact k.2⟩
theorem waysAdd (o : OpV) (i n : Nat) (x : Int) : addAll [] ((waysL o i n x).map (·.1)) = nextL o i n := by
  have ht : (toW o x).map (·.1) = if goesB o.k = true then [o.t.toNat] else [] := by
    unfold toW goesB
    by_cases h8 : o.k = 8
    · simp [h8]
    by_cases h9 : o.k = 9
    · simp [h9]
    by_cases h10 : o.k = 10
    · simp [h10]
    by_cases h5 : o.k = 5
    · simp [h5]
    simp [h8, h9, h10, h5]
  have hn : (nextW o i n x).map (·.1) = if (!(o.k == 9 || o.k == 14) && decide (i + 1 < n)) = true then [i + 1] else [] := by
    unfold nextW; split <;> rfl
  unfold waysL nextL
  rw [List.map_append, ht, hn]
  generalize (!(o.k == 9 || o.k == 14) && decide (i + 1 < n)) = p
  generalize goesB o.k = q
  generalize o.t.toNat = m
  cases p <;> cases q <;> simp [addAll, addL]
/-- places as numbers -/
def toI (L : List Nat) : List Int := L.map fun i : Nat => (i : Int)
theorem toI_len (L : List Nat) : (toI L).length = L.length := by simp [toI]
theorem hasI_toI (L : List Nat) (n : Nat) : hasI (toI L) (n : Int) = L.contains n := by
  unfold hasI toI
  rw [Bool.eq_iff_iff, List.contains_iff_mem, List.contains_iff_mem, List.mem_map]
  constructor
  · rintro ⟨a, h, e⟩; have : a = n := by omega
    subst this; exact h
  · intro h; exact ⟨n, h, rfl⟩
theorem toI_app (L : List Nat) (n : Nat) : toI (L ++ [n]) = toI L ++ [(n : Int)] := by simp [toI]
theorem add_len (L : List Nat) (j : Nat) : (addL L j).length ≤ L.length + 1 := by unfold addL; split <;> simp
theorem take_step {α : Type} (L : List α) (k : Nat) (h : k < L.length) : L.take (k + 1) = L.take k ++ [L[k]] := by
  rw [List.take_add_one, List.getElem?_eq_getElem h]; rfl
theorem addAll_take (L : List Nat) (W : List (Nat × Int)) (k : Nat) (h : k < W.length) : addAll L ((W.take (k + 1)).map (·.1)) = addL (addAll L ((W.take k).map (·.1))) W[k].1 := by
  rw [take_step W k h, List.map_append]
  unfold addAll
  rw [List.foldl_append]; rfl
theorem addAll_len : ∀ (M L : List Nat), (addAll L M).length ≤ L.length + M.length
  | [], L => by simp [addAll]
  | m :: M, L => by
    have h1 := add_len L m
    have h2 := addAll_len M (addL L m)
    unfold addAll at *
    rw [List.foldl_cons]
    simp; omega
end Go.Proofs.YtphgpimkkfgedaaGreatDoor
