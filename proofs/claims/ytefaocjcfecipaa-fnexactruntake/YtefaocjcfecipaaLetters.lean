/-
  The chain of letters, over this translation: it may be written; what takeNext and behind leave of it.
-/
import Derived.Test.YtefaocjcfecipaaAhead
import Derived.Test.YtefaocjcfecipaaCopyRun
namespace Go.Proofs.Ytefaocjcfecipaa
open Go.ChangeShapes Go.WideShapes Go.ChangeAt Go.RowKit Go.Joins
set_option maxRecDepth 20000 in
set_option maxHeartbeats 4000000 in
theorem chainOf_free (S : Nat) (M : List (Int × Int)) (b o cap : Nat) (w : World) (hS : S ≤ w.heap.size) (hl : M.length ≤ 1048576) (hb : b < S) (hc : ∀ i (h : i < M.length), ValAt w b (o + i * 2) M[i]) :
    Calls Try.prog 53 #[.slice (some ⟨b, o, none⟩) M.length cap] w fun e w' => e = .returned (.pointer (some ⟨w.heap.size, 0, none⟩)) ∧ (∃ l, Seg w' w.heap.size M l ∧ l < w'.heap.size ∧ w'.cell? ⟨l, 2, none⟩ = some (.pointer none)) ∧ (∀ b o, w.heap.size ≤ b → w'.frozen? ⟨b, o, none⟩ = false) ∧ Below w.heap.size w w' := by
  replace hc : Hid (∀ i (h : i < M.length), ValAt w b (o + i * 2) M[i]) := hc
  go_enter Try.func53, Try.ntmps53
  go_wp2_with fail
  go_loopw [4, 12] (fun l i wr => ∃ k lb : Nat, k ≤ M.length ∧ i = .int .i64 k ∧ l = .pointer (some ⟨lb, 0, none⟩) ∧ Seg wr w.heap.size (M.take k) lb ∧ lb < wr.heap.size ∧ wr.cell? ⟨lb, 2, none⟩ = some (.pointer none) ∧ (∀ b o, w.heap.size ≤ b → wr.frozen? ⟨b, o, none⟩ = false) ∧ Below w.heap.size w wr) (fun _ i _ => M.length - (intOf i).toNat)
  case atStart => exact ⟨0, w.heap.size, Nat.zero_le _, rfl, rfl, rfl, by simp, by simp [go_sem], fun b o hb => by rw [frozen?_alloc_cells]; exact frozen_past _ _ _ hb, (Below.refl _ _).alloc (Nat.le_refl _) _⟩
  case round =>
    obtain ⟨k, lb, hk, rfl, rfl, hG, hlb, hn, hfa, hBr⟩ := hrel
    have hfz : wr.frozen? ⟨lb, 2, none⟩ = false := hfa lb 2 hG.le
    replace hfa : Hid (∀ b o, w.heap.size ≤ b → wr.frozen? ⟨b, o, none⟩ = false) := hfa
    have hzr := hBr.size
    by_cases hlt : k < M.length
    · have g1 : (k : Int) < (M.length : Int) := by omega
      obtain ⟨v0, v1⟩ := hc.out k hlt
      have d0 : wr.cell? ⟨b, o + k * 2, none⟩ = some (.int .i64 M[k].1) := (hBr.cell (p := ⟨b, o + k * 2, none⟩) (by show b < w.heap.size; omega)).trans v0
      have d1 : wr.cell? ⟨b, o + k * 2 + 1, none⟩ = some (.int .i64 M[k].2) := (hBr.cell (p := ⟨b, o + k * 2 + 1, none⟩) (by show b < w.heap.size; omega)).trans v1
      have hwl := hG.le
      have htk : M.take (k + 1) = M.take k ++ [(M[k].1, M[k].2)] := by rw [List.take_succ_eq_append_getElem hlt]
      replace htk : Hid (M.take (k + 1) = M.take k ++ [(M[k].1, M[k].2)]) := htk
      clear v0 v1
      generalize M[k].1 = x at *
      generalize M[k].2 = y at *
      replace hG : Hid (Seg wr w.heap.size (M.take k) lb) := hG
      go_wp2_with fail
      go_roundw
      case rel =>
        have hX : Below wr.heap.size (wr.setCell ⟨lb, 2, none⟩ (.pointer (some ⟨wr.heap.size + 1, 0, none⟩))) (((wr.setCell ⟨lb, 2, none⟩ (.pointer (some ⟨wr.heap.size + 1, 0, none⟩))).alloc (.cells #[.int .i64 x, .int .i64 y] 24)).alloc (.cells #[.int .i64 x, .int .i64 y, .pointer none] 91)) := (((Below.refl _ _).alloc (by simp) _).alloc (by simp) _)
        refine ⟨k + 1, wr.heap.size + 1, by omega, by go_num, rfl, ?_, by simp, by simp [go_sem], fun b o hb => by rw [frozen?_alloc_cells, frozen?_alloc_cells, World.frozen?_setCell]; exact hfa.out b o hb, ((hBr.setCell (p := ⟨lb, 2, none⟩) hwl _).alloc (by simp; omega) _).alloc (by simp; omega) _⟩
        rw [htk.out]
        refine hG.out.snoc (by omega) (fun a e ha hae => ?_) ?_ ⟨by simp [go_sem], by simp [go_sem]⟩
        · exact (hX.cell (p := ⟨a, e, none⟩) (by show a < wr.heap.size; omega)).trans (set_other wr lb a e _ hae)
        · refine (hX.cell (p := ⟨lb, 2, none⟩) hlb).trans ?_
          exact World.cell?_setCell_same _ _ _ hn
      case measure => simp [intOf]; omega
    · have e : k = M.length := by omega
      subst e
      rw [List.take_length] at hG
      replace hG : Hid (Seg wr w.heap.size M lb) := hG
      go_wp2_with fail
      go_ret
      exact ⟨rfl, ⟨lb, hG.out, hlb, hn⟩, hfa.out, hBr⟩
theorem chainOf_allF (S : Nat) (M : List (Int × Int)) (v : Value) (w : World) (hS : S ≤ w.heap.size) (hl : M.length ≤ 1048576) (hM : Vals S w v M) :
    Calls Try.prog 53 #[v] w fun e w' => e = .returned (.pointer (some ⟨w.heap.size, 0, none⟩)) ∧ (∃ l, Seg w' w.heap.size M l ∧ l < w'.heap.size ∧ w'.cell? ⟨l, 2, none⟩ = some (.pointer none)) ∧ (∀ b o, w.heap.size ≤ b → w'.frozen? ⟨b, o, none⟩ = false) ∧ Below w.heap.size w w' := by
  obtain ⟨ao, cap, rfl, hc⟩ := hM
  rcases hc with rfl | ⟨b, o, rfl, hb, hc⟩
  · go_enter Try.func53, Try.ntmps53
    go_wp2_with fail
    refine wp_loop_rounds 1 ?_
    rw [rounds_succ]
    go_wp2_with fail
    go_ret
    exact ⟨rfl, ⟨w.heap.size, rfl, by simp, by simp [go_sem]⟩, fun b o hb => by rw [frozen?_alloc_cells]; exact frozen_past _ _ _ hb, (Below.refl _ _).alloc (Nat.le_refl _) _⟩
  · exact chainOf_free S M b o cap w hS hl hb hc
theorem Seg.append {w : World} : ∀ {A B : List (Int × Int)} {h m l : Nat}, Seg w h A m → Seg w m B l → Seg w h (A ++ B) l
  | [], _, _, _, _, h, k => by have e : _ = _ := h; rw [e]; exact k
  | _ :: _, _, _, _, _, ⟨c, hc, h1, h2, h⟩, k => ⟨c, hc, h1, h2, h.append k⟩
theorem Seg.sameL {w w' : World} : ∀ {M : List (Int × Int)} {b l : Nat}, Seg w b M l → (∀ x y : Nat, x ≤ l → (x < l ∨ y ≠ 2) → w'.cell? ⟨x, y, none⟩ = w.cell? ⟨x, y, none⟩) → Seg w' b M l
  | [], _, _, h, _ => h
  | v :: M, b, l, ⟨c, hc, h1, h2, h⟩, hk => ⟨c, hc, (hk b 2 (by have := h.le; omega) (.inl (by have := h.le; omega))).trans h1, ⟨(hk c 0 h.le (.inr (by omega))).trans h2.1, (hk c 1 h.le (.inr (by omega))).trans h2.2⟩, h.sameL hk⟩
theorem Seg.sameR {w w' : World} : ∀ {M : List (Int × Int)} {b l : Nat}, Seg w b M l → (∀ x y : Nat, b ≤ x → x ≤ l → w'.cell? ⟨x, y, none⟩ = w.cell? ⟨x, y, none⟩) → Seg w' b M l
  | [], _, _, h, _ => h
  | v :: M, b, l, ⟨c, hc, h1, h2, h⟩, hk => ⟨c, hc, (hk b 2 (Nat.le_refl _) (by have := h.le; omega)).trans h1, ⟨(hk c 0 (by omega) h.le).trans h2.1, (hk c 1 (by omega) h.le).trans h2.2⟩, h.sameR fun x y hx hl => hk x y (by omega) hl⟩
/-- the chain without the letter behind ab -/
theorem Seg.without {w w' : World} {A B : List (Int × Int)} {h ab c l : Nat} (hA : Seg w h A ab) (hc : ab < c) (hB : Seg w c B l) (hn : w.cell? ⟨l, 2, none⟩ = some (.pointer none))
    (hk : ∀ x y : Nat, x ≤ l → (x ≠ ab ∨ y ≠ 2) → w'.cell? ⟨x, y, none⟩ = w.cell? ⟨x, y, none⟩) (h2 : w'.cell? ⟨ab, 2, none⟩ = w.cell? ⟨c, 2, none⟩) :
    ∃ l', Seg w' h (A ++ B) l' ∧ l' ≤ l ∧ w'.cell? ⟨l', 2, none⟩ = some (.pointer none) := by
  have hcl := hB.le
  have hA' : Seg w' h A ab := hA.sameL fun x y hx hy => hk x y (by omega) (by omega)
  match B, hB with
  | [], hB =>
    have e : c = l := hB
    subst e
    exact ⟨ab, by rw [List.append_nil]; exact hA', by omega, h2.trans hn⟩
  | u :: B, ⟨c', hc', g1, g2, g⟩ =>
    have hl' := g.le
    refine ⟨l, hA'.append ⟨c', by omega, h2.trans g1, ⟨(hk c' 0 hl' (.inr (by omega))).trans g2.1, (hk c' 1 hl' (.inr (by omega))).trans g2.2⟩, g.sameR fun x y hx hxl => hk x y hxl (.inl (by omega))⟩, Nat.le_refl _, (hk l 2 (Nat.le_refl _) (.inl (by omega))).trans hn⟩
set_option maxRecDepth 20000 in
set_option maxHeartbeats 4000000 in
theorem takeNext_any (ab c : Nat) (v : Int × Int) (po : Option Addr) (w : World) (hac : ab < c) (hcw : c < w.heap.size) (h2 : w.cell? ⟨ab, 2, none⟩ = some (.pointer (some ⟨c, 0, none⟩))) (hv : ValAt w c 0 v) (hp : w.cell? ⟨c, 2, none⟩ = some (.pointer po)) (hf : w.frozen? ⟨ab, 2, none⟩ = false) :
    Calls Try.prog 57 #[.pointer (some ⟨ab, 0, none⟩)] w fun e w' => e = .returned (.agg #[.int .i64 v.1, .int .i64 v.2]) ∧ (∀ x y : Nat, x < w.heap.size → (x ≠ ab ∨ y ≠ 2) → w'.cell? ⟨x, y, none⟩ = w.cell? ⟨x, y, none⟩) ∧ w'.cell? ⟨ab, 2, none⟩ = some (.pointer po) ∧ But ab w w' := by
  obtain ⟨v0, v1⟩ := hv
  have hx0 : w.heap.size ≠ ab := by omega
  have hx1 : w.heap.size + 1 ≠ ab := by omega
  have hx2 : w.heap.size ≠ c := by omega
  have hx3 : w.heap.size + 1 ≠ c := by omega
  have hx4 : ab ≠ c := by omega
  have hx5 : ab < w.heap.size := by omega
  go_enter Try.func57, Try.ntmps57
  go_wp2_with fail
  have hX : Below w.heap.size (w.setCell ⟨ab, 2, none⟩ (.pointer po)) (((w.setCell ⟨ab, 2, none⟩ (.pointer po)).alloc (.cells #[.int .i64 v.1, .int .i64 v.2] 24)).alloc (.cells #[.int .i64 v.1, .int .i64 v.2] 24)) := ((Below.refl _ _).alloc (by simp [World.setCell]) _).alloc (by simp [World.setCell]) _
  have hc : ∀ x y : Nat, (x ≠ ab ∨ y ≠ 2) → (w.setCell ⟨ab, 2, none⟩ (.pointer po)).cell? ⟨x, y, none⟩ = w.cell? ⟨x, y, none⟩ := fun x y h => by
    by_cases e : ab = x
    · subst e
      have hy : y ≠ 2 := by omega
      exact World.cell?_setCell_other w _ _ _ (by intro e; injection e with _ e2; omega)
    · exact World.cell?_setCell_far w _ _ _ e
  exact bodyPost_ret (v := .agg #[.int .i64 v.1, .int .i64 v.2]) (by simp [results, Try.results57, go_sem]) rfl ⟨rfl, fun x y hx hy => (hX.cell (p := ⟨x, y, none⟩) hx).trans (hc x y hy), (hX.cell (p := ⟨ab, 2, none⟩) hx5).trans (World.cell?_setCell_same _ _ _ h2), (((But.refl ab w).setCell (p := ⟨ab, 2, none⟩) rfl _).alloc _).alloc _⟩
set_option maxRecDepth 20000 in
set_option maxHeartbeats 4000000 in
theorem behind_any (h l : Nat) (M : List (Int × Int)) (w : World) (hl : M.length ≤ 1048576) (hG : Seg w h M l) (hlw : l < w.heap.size) (hn : w.cell? ⟨l, 2, none⟩ = some (.pointer none)) :
    Calls Try.prog 59 #[.pointer (some ⟨h, 0, none⟩)] w fun e w' => ∃ ao cap, e = .returned (.slice ao M.length cap) ∧ OwnsV w' w.heap.size (.slice ao M.length cap) M ∧ Below w.heap.size w w' := by
  have hp0 : ∃ po, w.cell? ⟨h, 2, none⟩ = some (.pointer po) := by
    match M, hG with
    | [], hG => have e : h = l := hG; rw [e]; exact ⟨_, hn⟩
    | _ :: _, ⟨_, _, h1, _⟩ => exact ⟨_, h1⟩
  obtain ⟨p0, hp0⟩ := hp0
  replace hG : Hid (Seg w h M l) := hG
  go_enter Try.func59, Try.ntmps59
  go_wp2_with fail
  go_loopw [3, 4] (fun m nx wr => ∃ (k ab : Nat) (po : Option Addr), k ≤ M.length ∧ nx = .pointer po ∧ w.cell? ⟨ab, 2, none⟩ = some (.pointer po) ∧ Seg w ab (M.drop k) l ∧ OwnsV wr w.heap.size m (M.take k) ∧ Below w.heap.size w wr ∧ (po = none → k = M.length)) (fun m _ _ => M.length - (match m with | .slice _ n _ => n | _ => 0))
  case atStart =>
    refine ⟨0, h, p0, Nat.zero_le _, rfl, hp0, hG.out, World.ownsRow_nil w w.heap.size 24 2, Below.refl _ _, fun e => ?_⟩
    subst e
    match M, hG.out with
    | [], _ => rfl
    | _ :: _, ⟨_, _, h1, _⟩ => rw [hp0] at h1; cases h1
  case round =>
    obtain ⟨k, ab, po, hk, rfl, hab, hD, hO, hBr, hpo⟩ := hrel
    have hzr := hBr.size
    obtain ⟨ao, cap, rfl⟩ := hO.form
    have htl : (M.take k).length = k := by rw [List.length_take]; omega
    by_cases hlt : k < M.length
    · rw [List.drop_eq_getElem_cons hlt] at hD
      obtain ⟨c, hac, hp, hv, hD⟩ := hD
      rw [hab] at hp
      cases hp
      have hcl := hD.le
      have hp1 : ∃ po, w.cell? ⟨c, 2, none⟩ = some (.pointer po) ∧ (po = none → k + 1 = M.length) := by
        by_cases e : k + 1 = M.length
        · rw [e, List.drop_length] at hD
          have e2 : c = l := hD
          rw [e2]; exact ⟨_, hn, fun _ => e⟩
        · rw [List.drop_eq_getElem_cons (by omega)] at hD
          obtain ⟨c', _, h1, _⟩ := hD
          exact ⟨_, h1, fun e => by cases e⟩
      obtain ⟨p1, hp1, hq1⟩ := hp1
      replace hD : Hid (Seg w c (M.drop (k + 1)) l) := hD
      replace hq1 : Hid (p1 = none → k + 1 = M.length) := hq1
      have htk : Hid (M.take (k + 1) = M.take k ++ [(M[k].1, M[k].2)]) := by show _ = _; rw [List.take_succ_eq_append_getElem hlt]
      have d0 : wr.cell? ⟨c, 0, none⟩ = some (.int .i64 M[k].1) := (hBr.cell (p := ⟨c, 0, none⟩) (by show c < w.heap.size; omega)).trans hv.1
      have d1 : wr.cell? ⟨c, 1, none⟩ = some (.int .i64 M[k].2) := (hBr.cell (p := ⟨c, 1, none⟩) (by show c < w.heap.size; omega)).trans hv.2
      clear hpo hab hv
      generalize M[k].1 = x at *
      generalize M[k].2 = y at *
      have hem : Vals (wr.heap.size + 1) (wr.alloc (.cells #[.int .i64 x, .int .i64 y] 24)) (.slice (some ⟨wr.heap.size, 0, none⟩) 1 1) [(x, y)] := ⟨_, _, rfl, .inr ⟨wr.heap.size, 0, rfl, by omega, fun i hi => by
        have e : i = 0 := by simp at hi; omega
        subst e
        exact ⟨by simp [go_sem], by simp [go_sem]⟩⟩⟩
      replace hO : OwnsV (wr.alloc (.cells #[.int .i64 x, .int .i64 y] 24)) w.heap.size (.slice ao (M.take k).length cap) (M.take k) := World.ownsRow.alloc hO _
      have hn1 : (M.take k).length + [(x, y)].length ≤ 16777216 := by rw [htl]; simp; omega
      have hle : w.heap.size ≤ (wr.alloc (.cells #[.int .i64 x, .int .i64 y] 24)).heap.size := by simp; omega
      have hcw : c < wr.heap.size := by omega
      replace hn : Hid (w.cell? ⟨l, 2, none⟩ = some (.pointer none)) := hn
      replace htl : Hid ((M.take k).length = k) := htl
      have hown : ∀ j, (Value.slice ao (M.take k).length cap).ownBlock = some j → w.heap.size ≤ j := fun j e => (World.ownsRow.lt hO j e).1
      go_wp2_with (refine wpList_append_V _ rfl (.tmp 15) (.tmp 20) rfl rfl rfl hO hem hn1 hle ?_; intro v' w1 hO1 hg1 hw1; show Hid _)
      have hb1 : Below w.heap.size w w1 := (hBr.alloc (by omega) _).grown hg1 hle hown
      have p2 : w1.cell? ⟨c, 2, none⟩ = some (.pointer p1) := (hb1.cell (p := ⟨c, 2, none⟩) (by show c < w.heap.size; omega)).trans hp1
      rw [← htk.out] at hO1
      clear hO hem hn1 hle d0 d1 hw1 hg1 hown
      delta Hid
      refine .inl ?_
      go_wp2_with fail
      go_roundw
      case rel => exact ⟨k + 1, c, p1, by omega, rfl, hp1, hD.out, hO1, hb1, hq1.out⟩
      case measure =>
        obtain ⟨ao1, cap1, rfl⟩ := hO1.form
        have e1 : (M.take (k + 1)).length = k + 1 := by rw [List.length_take]; omega
        have e0 := htl.out
        simp only [e1, e0]; omega
    · have e : k = M.length := by omega
      subst e
      rw [List.drop_length] at hD
      have e2 : ab = l := hD
      subst e2
      rw [hn] at hab
      cases hab
      rw [List.take_length] at hO htl
      go_wp2_with fail
      go_ret
      exact ⟨ao, cap, rfl, hO, hBr⟩
end Go.Proofs.Ytefaocjcfecipaa
