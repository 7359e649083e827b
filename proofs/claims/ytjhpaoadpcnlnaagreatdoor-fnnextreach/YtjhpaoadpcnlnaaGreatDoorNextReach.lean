/-
  For every code of at most 2^20 bytes: by the steps that are drawn, impl.CodeReach answers as the specification does, and from a place that can be come to one comes by impl.CodeNext to such places alone, each of them but the first is come to from one, and they are told in rising order. Longer codes are let by. No condition but that the tables and errors of strconv are as their initialisers lay them.
-/
import Derived.Test.YtjhpaoadpcnlnaaGreatDoorZa19
import Derived.Test.YtjhpaoadpcnlnaaGreatDoorZa23
import Derived.Test.YtjhpaoadpcnlnaaGreatDoorZa25
import Derived.Test.YtjhpaoadpcnlnaaGreatDoorZa28
import Derived.Test.YtjhpaoadpcnlnaaGreatDoorZa26
import Derived.Test.YtjhpaoadpcnlnaaGreatDoorFcFnNextReach
namespace Go.Proofs.YtjhpaoadpcnlnaaGreatDoor
open Go.ChangeShapes Go.WideShapes Go.ChangeAt Go.RowKit Go.Joins
namespace NextReach
/-- each place that is come to, but the first, is come to from one -/
theorem reach_from {C : List OpV} {R : List Nat} (hR : IsReach C (fun x => x ∈ R)) (j : Nat) (hj : j < C.length) (hm : j ∈ R) (h0 : j ≠ 0) : ∃ i, ∃ h : i < C.length, i ∈ R ∧ j ∈ nextL C[i] i C.length := by
  have hT : Shut C (fun x => x ∈ R ∧ (x = 0 ∨ ∃ i, ∃ h : i < C.length, i ∈ R ∧ x ∈ nextL C[i] i C.length)) := by
    refine ⟨⟨hR.1.1, .inl rfl⟩, fun i hi hs k hk => ⟨hR.1.2 i hi hs.1 k hk, .inr ⟨i, hi, hs.1, hk⟩⟩⟩
  rcases (hR.2 _ hT j hj hm).2 with h | h
  · exact absurd h h0
  · exact h
theorem sortR_rise (n : Nat) (R : List Nat) : (toI (sortR n R)).Pairwise (· < ·) := by
  unfold toI sortR
  refine List.Pairwise.map _ (fun a b h => by omega) (List.Pairwise.filter _ List.pairwise_lt_range)
/-- a row of truths of one's own: the first of them that must be true are -/
structure FromAt (w : World) (F n : Nat) (T : Nat → Prop) : Prop where
  lt : F < w.heap.size
  cell : ∀ j, j < n → ∃ v, w.cell? ⟨F, j, none⟩ = some (.bool v) ∧ (T j → v = true)
  free : ∀ j, w.frozen? ⟨F, j, none⟩ = false
theorem FromAt.below {w w' : World} {F n : Nat} {T : Nat → Prop} (h : FromAt w F n T) (hb : Below w.heap.size w w') : FromAt w' F n T :=
  ⟨Nat.lt_of_lt_of_le h.lt hb.size, fun j hj => by obtain ⟨v, h1, h2⟩ := h.cell j hj; exact ⟨v, (hb.cell (p := ⟨F, j, none⟩) h.lt).trans h1, h2⟩, fun j => (hb.frozen (p := ⟨F, j, none⟩) h.lt).trans (h.free j)⟩
theorem FromAt.weak {w : World} {F n : Nat} {T U : Nat → Prop} (h : FromAt w F n T) (hu : ∀ j, j < n → U j → T j) : FromAt w F n U :=
  ⟨h.lt, fun j hj => by obtain ⟨v, h1, h2⟩ := h.cell j hj; exact ⟨v, h1, fun u => h2 (hu j hj u)⟩, h.free⟩
theorem FromAt.put {w : World} {F n : Nat} {T : Nat → Prop} (h : FromAt w F n T) (m : Nat) (hm : m < n) : FromAt (w.setCell ⟨F, m, none⟩ (.bool true)) F n (fun j => T j ∨ j = m) := by
  refine ⟨by simpa [World.setCell] using h.lt, fun j hj => ?_, fun j => by simpa [go_sem] using h.free j⟩
  by_cases e : j = m
  · subst e
    obtain ⟨v, h1, _⟩ := h.cell j hj
    exact ⟨true, World.cell?_setCell_same _ _ _ h1, fun _ => rfl⟩
  · obtain ⟨v, h1, h2⟩ := h.cell j hj
    refine ⟨v, ?_, fun hh => h2 (hh.resolve_right e)⟩
    rw [← h1]
    exact World.cell?_setCell_other _ _ _ _ (by simp)
theorem info_bool : ∃ i, Tryz.prog.info? 4 = some i ∧ i.zero = some (.bool false) ∧ i.size = 1 ∧ i.bytes = 1 :=
  ⟨(Tryz.prog.info? 4).get (by kernel_rfl), (Option.some_get _).symm, by kernel_rfl, by kernel_rfl, by kernel_rfl⟩
theorem from_made {w : World} {B F n : Nat} (h : w.ownsRow B 4 1 (.slice (some ⟨F, 0, none⟩) n n) n (madeCells (Value.cells (.bool false)) (n * 1)).toList) : FromAt w F n (fun _ => False) := by
  have e : (madeCells (Value.cells (.bool false)) (n * 1)).toList = List.replicate n (.bool false) := by
    show (madeCells #[.bool false] (n * 1)).toList = _
    rw [toList_madeCells_one, Nat.mul_one]
  rw [e] at h
  refine ⟨(World.ownsRow.lt h F rfl).2, fun j hj => ⟨false, ?_, fun hh => hh.elim⟩, World.ownsRow.frozenAt h⟩
  rw [World.ownsRow.cellAt h j (by omega), List.getElem?_replicate, if_pos hj]
/-- what is marked when p places were gone through -/
def Marked (C : List OpV) (L : List Int) (p : Nat) (j : Nat) : Prop := ∃ q, q < p ∧ ∃ h : q < L.length, (j : Int) ∈ nextI C L[q]
set_option maxRecDepth 20000 in
set_option maxHeartbeats 8000000 in
theorem walk (a : Option Addr) (len cap : Nat) (w : World) (h : Code0 w a len cap) :
    Calls Tryz.prog 10 #[.slice a len cap] w fun e w' => e = .returned (.bool true) ∧ Below w.heap.size w w' := by
  by_cases hlen : len ≤ 1048576
  · have g0 : ¬ (1048576 : Int) < (len : Int) := by omega
    obtain ⟨inf, i1, i2, i3, i4⟩ := info_bool
    go_enter Tryz.func10, Tryz.ntmps10
    go_wp2_with fail
    refine (drawReach_any a len cap _ h).mono ?_
    rintro e w1 ⟨C, v, rfl, hC17, hO1, hB1⟩
    have hz1 := hB1.size
    obtain ⟨ao, cp, rfl, hC1, _⟩ := hO1.code
    have hl : C.length ≤ 1048576 := by omega
    clear hO1
    go_wp2_with fail
    refine (implCodeReach_any C ao cp _ hl hC1).mono ?_
    rintro e w2 ⟨v2, L, rfl, hR2, hO2, hb2⟩
    have hz2 := hb2.size
    have hB2 : Below w.heap.size w w2 := hB1.trans (hb2.mono (by omega))
    have hC2 := hC1.below hb2
    have hLl : L.length ≤ 1048576 := by have := reachOf_len hR2; omega
    have hI2 := Owns.ints hO2
    clear hO2 hb2 hB1 hC1
    go_wp2_with fail
    refine (specCodeReach_any C ao cp _ hl hC2).mono ?_
    rintro e w3 ⟨v3, L3, rfl, hR3, hO3, hb3⟩
    obtain rfl := reachOf_one hR2 hR3
    have hz3 := hb3.size
    have hB3 : Below w.heap.size w w3 := hB2.trans (hb3.mono (by omega))
    have hC3 := hC2.below hb3
    have hI3 := hI2.below hb3
    clear hb3 hB2 hC2 hI2 hR3
    go_wp2_with fail
    refine (lvInts_same w3.heap.size L _ _ _ hLl (hI3.mono (by omega)) (Owns.ints hO3)).mono ?_
    rintro e w4 ⟨rfl, hb4⟩
    have hz4 := hb4.size
    have hB4 : Below w.heap.size w w4 := hB3.trans (hb4.mono (by omega))
    have hC4 := hC3.below hb4
    have hI4 := hI3.below (hb4.mono (by omega))
    clear hb4 hB3 hC3 hI3 hO3
    obtain ⟨ao2, cp2, rfl, hI4'⟩ := id hI4
    by_cases hL0 : L.length = 0
    · have hL1 : ((L.length : Int) == 0) = true := by simp [hL0]
      replace hL0 : Hid (L.length = 0) := hL0
      go_wp2_with fail
      refine (specCodeReach_any C ao cp _ hl hC4).mono ?_
      rintro e w5 ⟨v5, L5, rfl, hR5, hO5, hb5⟩
      obtain rfl := reachOf_one hR2 hR5
      have hz5 := hb5.size
      have hB5 : Below w.heap.size w w5 := hB4.trans (hb5.mono (by omega))
      have hI5 := hI4.below (hb5.mono (by omega))
      go_wp2_with fail
      refine (lvInts_same w5.heap.size L _ _ _ hLl (hI5.mono (by omega)) (Owns.ints hO5)).mono ?_
      rintro e w6 ⟨rfl, hb6⟩
      go_wp2_with fail
      go_ret
      exact ⟨rfl, hB5.trans (hb6.mono (by omega))⟩
    · have hL1 : ((L.length : Int) == 0) = false := by simp [hL0]
      obtain ⟨hcb, R, hR, hLR⟩ := reach_code hR2 hL0
      have hC0 : 0 < C.length := (codeB_well hcb).1.1
      have hLC : L.length ≤ C.length := reachOf_len hR2
      have hrise : Hid (L.Pairwise (· < ·)) := by show L.Pairwise (· < ·); rw [hLR]; exact sortR_rise _ _
      have hLb : Hid (∀ x ∈ L, 0 ≤ x ∧ x < (C.length : Int)) := fun x hx => reach_last hR2 x hx
      have hshut : Hid (∀ p (h : p < L.length), ∀ y ∈ nextI C L[p], hasI L y = true) := by
        show ∀ p (h : p < L.length), ∀ y ∈ nextI C L[p], hasI L y = true
        intro p hp y hy
        obtain ⟨q, hq⟩ : ∃ q : Nat, L[p] = (q : Int) := ⟨L[p].toNat, by have := reach_last hR2 L[p] (List.getElem_mem hp); omega⟩
        have hqC : q < C.length := by have := reach_last hR2 L[p] (List.getElem_mem hp); omega
        have hqR : q ∈ R := by
          have : (q : Int) ∈ L := hq ▸ List.getElem_mem hp
          rw [hLR] at this
          obtain ⟨z, hz, e⟩ := List.mem_map.1 this
          have : z = q := by omega
          subst this; exact (mem_sortR.1 hz).2
        rw [hq, nextI_yes hcb hqC] at hy
        obtain ⟨z, hz, rfl⟩ := List.mem_map.1 hy
        have hzC := next_lt (codeB_well hcb).1 hqC z hz
        rw [hLR, hasI_sort z hzC, decide_eq_true_eq]
        exact hR.1.2 q hqC hqR z hz
      have hpred : Hid (∀ p (h : p < L.length), 0 < L[p] → ∃ r, ∃ h : r < L.length, L[p] ∈ nextI C L[r]) := by
        show ∀ p (h : p < L.length), 0 < L[p] → ∃ r, ∃ h : r < L.length, L[p] ∈ nextI C L[r]
        intro p hp h0
        obtain ⟨q, hq⟩ : ∃ q : Nat, L[p] = (q : Int) := ⟨L[p].toNat, by omega⟩
        have hqL : (q : Int) ∈ L := hq ▸ List.getElem_mem hp
        rw [hLR] at hqL
        obtain ⟨z, hz, e⟩ := List.mem_map.1 hqL
        have : z = q := by omega
        subst this
        obtain ⟨hz1, hz2⟩ := mem_sortR.1 hz
        obtain ⟨i, hi, hiR, hiN⟩ := reach_from hR z hz1 hz2 (by omega)
        have hiL : (i : Int) ∈ L := by rw [hLR]; exact List.mem_map.2 ⟨i, mem_sortR.2 ⟨hi, hiR⟩, rfl⟩
        obtain ⟨r, hr, hre⟩ := List.getElem_of_mem hiL
        refine ⟨r, hr, ?_⟩
        rw [hq, hre, nextI_yes hcb hi]
        exact List.mem_map.2 ⟨z, hiN, rfl⟩
      have hnb : Hid (∀ p (h : p < L.length), ∀ y ∈ nextI C L[p], 0 ≤ y ∧ y < (C.length : Int)) := by
        show ∀ p (h : p < L.length), ∀ y ∈ nextI C L[p], 0 ≤ y ∧ y < (C.length : Int)
        intro p hp y hy
        obtain ⟨q, hq⟩ : ∃ q : Nat, L[p] = (q : Int) := ⟨L[p].toNat, by have := reach_last hR2 L[p] (List.getElem_mem hp); omega⟩
        have hqC : q < C.length := by have := reach_last hR2 L[p] (List.getElem_mem hp); omega
        rw [hq] at hy
        exact nkI_bd hcb hqC y hy
      rcases hI4' with hLz | ⟨b2, o2, rfl, hb2', hc2⟩
      · rw [hLz] at hL0; exact absurd rfl hL0
      replace hc2 : Hid (∀ i (h : i < L.length), w4.cell? ⟨b2, o2 + i, none⟩ = some (.int .i64 L[i])) := hc2
      clear hLR hR hcb hR2
      go_wp2_with (refine wpList_make_full _ rfl (.tmp 32) (.tmp 32) 44 rfl w4.heap.size 4 inf _ 1 Tryz.underlying44 i1 i2 i3 .i64 .i64 _ _ C.length rfl rfl rfl rfl (by rw [i4]; omega) (by unfold maxLen; omega) (Nat.le_refl _) ?_; intro w5 ho5 hg5)
      have hF5 := from_made ho5
      have hz5 := hg5.size
      have hB5 : Below w4.heap.size w4 w5 := (Below.refl _ _).grown hg5 (by omega) (by intro k hk; cases hk)
      clear ho5 hg5
      generalize hFe : w4.heap.size = F at *
      have hb2w : b2 < F := by omega
      go_loopw [6] (fun i wr => ∃ p : Nat, p ≤ L.length ∧ i = .int .i64 p ∧ FromAt wr F C.length (Marked C L p) ∧ Below F w4 wr) (fun i _ => L.length - (intOf i).toNat)
      case atStart => exact ⟨0, Nat.zero_le _, rfl, hF5.weak (fun j _ h => by obtain ⟨q, hq, _⟩ := h; omega), hB5⟩
      case round =>
        clear hF5 hB5
        obtain ⟨p, hp, rfl, hF, hBr⟩ := hrel
        have hzr := hBr.size
        have hIr : Hid (∀ W, Below F w4 W → Ints F W (.slice (some ⟨b2, o2, none⟩) L.length cp2) L) := fun W hW => (hI4.below (hW.mono (by omega))).mono (by omega)
        by_cases hlt : p < L.length
        · have g1 : (p : Int) < (L.length : Int) := by omega
          have c0 : wr.cell? ⟨b2, o2 + p, none⟩ = some (.int .i64 L[p]) := (hBr.cell (p := ⟨b2, o2 + p, none⟩) hb2w).trans (hc2.out p hlt)
          have hCr : CodeAt wr ao C := hC4.below (by rw [hFe]; exact hBr)
          have hsh : Hid (∀ y ∈ nextI C L[p], hasI L y = true) := hshut.out p hlt
          have hnb' : Hid (∀ y ∈ nextI C L[p], 0 ≤ y ∧ y < (C.length : Int)) := hnb.out p hlt
          have hmk : Hid (∀ j, j < C.length → Marked C L (p + 1) j → Marked C L p j ∨ (j : Int) ∈ nextI C L[p]) := by
            show ∀ j, j < C.length → Marked C L (p + 1) j → Marked C L p j ∨ (j : Int) ∈ nextI C L[p]
            rintro j _ ⟨q, hq, hqL, hm⟩
            by_cases e : q < p
            · exact .inl ⟨q, e, hqL, hm⟩
            · have : q = p := by omega
              subst this; exact .inr hm
          generalize L[p] = x at *
          go_wp2_with fail
          refine (implCodeNext_any C ao cp x _ hl hCr).mono ?_
          rintro e w6 ⟨v6, rfl, ho6, hb6⟩
          have hz6 := hb6.size
          have hFl := hF.lt
          have hF6 := hF.below hb6
          have hB6 : Below F w4 w6 := hBr.trans (hb6.mono (by omega))
          have hM2 := nkI_len C x
          obtain ⟨ao6, cp6, rfl, hI6⟩ := Owns.ints ho6
          have hg6 : Hid (∀ b o, ao6 = some ⟨b, o, none⟩ → nextI C x ≠ [] → b ≠ F) := by
            show ∀ b o, ao6 = some ⟨b, o, none⟩ → nextI C x ≠ [] → b ≠ F
            rintro b o rfl hne e
            have := (World.ownsRow.lt ho6 b rfl).1
            omega
          generalize nextI C x = M at *
          clear ho6 hb6 hF hBr c0 hCr
          rcases hI6 with rfl | ⟨b6, o6, rfl, hb6', hc6⟩
          · go_wp2_with fail
            refine wp_loop_rounds 1 ?_
            rw [rounds_succ]
            go_wp2_with fail
            go_roundw
            case rel => exact ⟨p + 1, by omega, by go_num, hF6.weak (fun j hj h => (hmk.out j hj h).resolve_right (by simp)), hB6⟩
            case measure => simp [intOf]; omega
          go_wp2_with fail
          go_loopw [8] (fun i wy => ∃ j : Nat, j ≤ M.length ∧ i = .int .i64 j ∧ FromAt wy F C.length (fun m => Marked C L p m ∨ (m : Int) ∈ M.take j) ∧ Below F w4 wy ∧ w6.heap.size ≤ wy.heap.size ∧ Hid (∀ i (h : i < M.length), wy.cell? ⟨b6, o6 + i, none⟩ = some (.int .i64 M[i]))) (fun i _ => M.length - (intOf i).toNat)
          case atStart => exact ⟨0, Nat.zero_le _, rfl, hF6.weak (fun m _ h => h.resolve_right (by simp)), hB6, Nat.le_refl _, hc6⟩
          case round =>
            clear hF6 hB6 hc6
            obtain ⟨j, hj, rfl, hF, hBy, hzy, hcy⟩ := hrel
            by_cases hjlt : j < M.length
            · have g2 : (j : Int) < (M.length : Int) := by omega
              have d0 := hcy.out j hjlt
              have hbF : b6 ≠ F := hg6.out b6 o6 rfl (by intro e; rw [e] at hjlt; simp at hjlt)
              have hsy := hsh.out M[j] (List.getElem_mem hjlt)
              have hby := hnb'.out M[j] (List.getElem_mem hjlt)
              have hIy := hIr.out wr hBy
              have htk : Hid (M.take (j + 1) = M.take j ++ [M[j]]) := by show _ = _; rw [List.take_add_one, List.getElem?_eq_getElem hjlt]; rfl
              obtain ⟨yn, hyn⟩ : ∃ yn : Nat, M[j] = (yn : Int) := ⟨M[j].toNat, by omega⟩
              have hyn' : Hid (M[j] = (yn : Int)) := hyn
              rw [hyn] at d0 hsy hby
              clear hyn
              have hynC : yn < C.length := by omega
              have g3 : (yn : Int) < (C.length : Int) := hby.2
              obtain ⟨vb, e0, _⟩ := hF.cell yn hynC
              have f0 := hF.free yn
              have hP := hF.put yn hynC
              have hPB : Below F w4 (wr.setCell ⟨F, yn, none⟩ (.bool true)) := hBy.setCell (p := ⟨F, yn, none⟩) (Nat.le_refl _) _
              have hcz : Hid (∀ i (h : i < M.length), (wr.setCell ⟨F, yn, none⟩ (.bool true)).cell? ⟨b6, o6 + i, none⟩ = some (.int .i64 M[i])) := by
                show ∀ i (h : i < M.length), _
                intro i hi
                rw [← hcy.out i hi]
                exact World.cell?_setCell_other _ _ _ _ (by simp)
              replace hP : Hid (FromAt (wr.setCell ⟨F, yn, none⟩ (.bool true)) F C.length (fun m => (Marked C L p m ∨ (m : Int) ∈ M.take j) ∨ m = yn)) := hP
              replace hF : Hid (FromAt wr F C.length (fun m => Marked C L p m ∨ (m : Int) ∈ M.take j)) := hF
              go_wp2_with fail
              refine (lvAmong_any F L _ _ _ hLl hIy).mono ?_
              rintro e w7 ⟨rfl, rfl⟩
              rw [hsy]
              go_wp2_with fail
              go_roundw
              case rel => exact ⟨j + 1, by omega, by go_num, hP.out.weak (fun m _ h => by
                rcases h with h | h
                · exact .inl (.inl h)
                · rw [htk.out, List.mem_append] at h
                  rcases h with h | h
                  · exact .inl (.inr h)
                  · rw [List.mem_singleton, hyn'.out] at h
                    exact .inr (by omega)), hPB, by simpa [World.setCell] using hzy, hcz⟩
              case measure => simp [intOf]; omega
            · have e : j = M.length := by omega
              subst e
              go_wp2_with fail
              go_roundw
              case rel => exact ⟨p + 1, by omega, by go_num, hF.weak (fun m hm h => by
                rcases hmk.out m hm h with h | h
                · exact .inl h
                · exact .inr (by rw [List.take_length]; exact h)), hBy⟩
              case measure => simp [intOf]; omega
        · have e : p = L.length := by omega
          subst e
          have hB7 : Below w.heap.size w wr := hB4.trans (hBr.mono (by omega))
          replace hF : Hid (FromAt wr F C.length (Marked C L L.length)) := hF
          go_wp2_with fail
          obtain ⟨w7, hw7⟩ : ∃ x, x = wr := ⟨_, rfl⟩
          subst hw7
          go_loopw [9] (fun i wr => ∃ p : Nat, p ≤ L.length ∧ i = .int .i64 p ∧ Below w7.heap.size w7 wr) (fun i _ => L.length - (intOf i).toNat)
          case atStart => exact ⟨0, Nat.zero_le _, rfl, Below.refl _ _⟩
          case round =>
            obtain ⟨p, hp, rfl, hBx⟩ := hrel
            have hzx := hBx.size
            by_cases hlt : p < L.length
            · have g1 : (p : Int) < (L.length : Int) := by omega
              have hcx : Hid (∀ q (h : q < L.length), wr.cell? ⟨b2, o2 + q, none⟩ = some (.int .i64 L[q])) := fun q hq => ((hBr.trans (hBx.mono (by omega))).cell (p := ⟨b2, o2 + q, none⟩) hb2w).trans (hc2.out q hq)
              have c0 := hcx.out p hlt
              have hxb := hLb.out L[p] (List.getElem_mem hlt)
              have hpr := hpred.out p hlt
              have hri : Hid (∀ q (h : q + 1 < L.length), L[q] < L[q + 1]) := fun q hq => List.pairwise_iff_getElem.1 hrise.out q (q + 1) (by omega) hq (by omega)
              obtain ⟨xn, hxn⟩ : ∃ xn : Nat, L[p] = (xn : Int) := ⟨L[p].toNat, by omega⟩
              have hxnC : xn < C.length := by omega
              have g2 : (xn : Int) < (C.length : Int) := by omega
              have hFx := hF.out.below hBx
              obtain ⟨vb, e0, hvb⟩ := hFx.cell xn hxnC
              have hfrom : Hid (0 < xn → vb = true) := fun h0 => hvb (by
                obtain ⟨r, hr, hm⟩ := hpr (by omega)
                exact ⟨r, hr, hr, by rw [← hxn]; exact hm⟩)
              rw [hxn] at c0
              have hprev : Hid (∀ q, q + 1 = p → ∃ pv, wr.cell? ⟨b2, o2 + q, none⟩ = some (.int .i64 pv) ∧ pv < (xn : Int)) := by
                show ∀ q, q + 1 = p → _
                rintro q rfl
                exact ⟨L[q], hcx.out q (by omega), by rw [← hxn]; exact hri.out q hlt⟩
              clear hxn hpr hxb hvb hFx hcx hri
              rcases Nat.eq_zero_or_pos p with hp0 | hp0
              · subst hp0
                clear hprev
                simp only [Nat.add_zero] at c0
                by_cases hx0 : 0 < xn
                · have vt := hfrom.out hx0
                  subst vt
                  have e1 : decide ((0 : Int) < (xn : Int)) = true := by simp; omega
                  have e1' : (0 : Int) < (xn : Int) := by omega
                  go_wp2_with fail
                  go_quiet (fail)
                  go_wp2_with fail
                  go_roundw
                  case rel => exact ⟨1, by omega, by go_num, hBx.trans ⟨rfl, rfl, rfl, Nat.le_refl _, fun _ _ => rfl⟩⟩
                  case measure => simp [intOf]; omega
                · have e1 : decide ((0 : Int) < (xn : Int)) = false := by simp; omega
                  have hx00 : xn = 0 := by omega
                  subst hx00
                  go_wp2_with fail
                  go_quiet (fail)
                  go_wp2_with fail
                  go_roundw
                  case rel => exact ⟨1, by omega, by go_num, hBx.trans ⟨rfl, rfl, rfl, Nat.le_refl _, fun _ _ => rfl⟩⟩
                  case measure => simp [intOf]; omega
              · obtain ⟨q, rfl⟩ : ∃ q, p = q + 1 := ⟨p - 1, by omega⟩
                obtain ⟨pv, c1, hpv⟩ := hprev.out q rfl
                have g5 : (q : Int) < (L.length : Int) := by omega
                have e2 : decide ((xn : Int) ≤ pv) = false := by simp; omega
                have e2' : ¬ (xn : Int) ≤ pv := by omega
                have e3 : decide ((0 : Int) < (q : Int) + 1) = true := decide_eq_true (by omega)
                have e3' : (0 : Int) < (q : Int) + 1 := by omega
                have e4 : (q : Int) + 1 - 1 = (q : Int) := by omega
                clear hprev
                by_cases hx0 : 0 < xn
                · have vt := hfrom.out hx0
                  subst vt
                  have e1 : decide ((0 : Int) < (xn : Int)) = true := by simp; omega
                  have e1' : (0 : Int) < (xn : Int) := by omega
                  go_wp2_with fail
                  go_quiet (fail)
                  go_wp2_with fail
                  go_roundw
                  case rel => exact ⟨q + 1 + 1, by omega, by go_num, hBx.trans ⟨rfl, rfl, rfl, Nat.le_refl _, fun _ _ => rfl⟩⟩
                  case measure => simp [intOf]; omega
                · have e1 : decide ((0 : Int) < (xn : Int)) = false := by simp; omega
                  have hx00 : xn = 0 := by omega
                  subst hx00
                  go_wp2_with fail
                  go_quiet (fail)
                  go_wp2_with fail
                  go_roundw
                  case rel => exact ⟨q + 1 + 1, by omega, by go_num, hBx.trans ⟨rfl, rfl, rfl, Nat.le_refl _, fun _ _ => rfl⟩⟩
                  case measure => simp [intOf]; omega
            · have e : p = L.length := by omega
              subst e
              go_wp2_with fail
              go_ret
              exact ⟨rfl, hB7.trans (hBx.mono (by omega))⟩
  · have g0 : (1048576 : Int) < (len : Int) := by omega
    go_enter Tryz.func10, Tryz.ntmps10
    go_wp2_with fail
    go_ret
    exact ⟨rfl, Below.refl _ _⟩

set_option maxRecDepth 20000 in
theorem contract (H : Type) (enc : TypeId × Value → H) (W : World) (base : Nat) (args : Array Value) (ds gs : List (DataW H)) (before : List MemPlace)
    (hval : ∀ (j : Nat) t v, Tryz.f10.params[j]? = some t → args[j]? = some v → Value.okWide Tryz.prog W .any base t v)
    (hW : DataW.Whole enc Tryz.prog Tryz.f10.params.toList Rows.fnNextReachSpec.vars false W args.toList ds gs before) (_hL : laidMetH Tryz.prog Rows.fnNextReachRow.laid W) :
    Calls Tryz.prog 10 args W fun e W' => ∃ v, e = .returned v ∧ Rows.fnNextReachSpec.post enc Tryz.prog Tryz.f10 false true false false W args v W' := by
  have hW' := hW
  obtain ⟨p, q, hA0, hV, rfl, hfz, hnd⟩ := hW
  have hA : DataW.TrodAll enc Tryz.prog W 0 (fun _ => true) true Tryz.f10.params.toList args.toList ds p := hA0
  rw [Tryz.params10] at hA hval
  obtain ⟨v0, vs0, d0, ds0, p0, q0, hargs, rfl, rfl, h0, r0⟩ := trodAll_cons hA
  obtain ⟨rfl, rfl, rfl⟩ := trodAll_nil r0
  obtain rfl : args = #[v0] := by cases args; simp_all
  obtain ⟨rfl, rfl⟩ := trodVars_none hV
  obtain ⟨a0, len0, cap0, rfl⟩ := okWide_slice Tryz.underlying22 (hval 0 22 v0 rfl rfl)
  have k0 := h0
  have lt0 : ∀ x ∈ p0, x.block < W.heap.size := by obtain ⟨m, hm⟩ := k0; exact DataW.trod_lt m _ _ _ hm
  have w0 : Code0 W a0 len0 cap0 := by
    obtain ⟨fuel, hf⟩ := h0
    rcases open_ints Tryz.underlying22 Tryz.underlying5 (by kernel_rfl) hf with ⟨hcs, _⟩ | ⟨x, l, c, zs, hcs, _, hl, hm, hz, _, hcell, hwz⟩
    · simp [Value.cells] at hcs
      obtain ⟨rfl, rfl, rfl⟩ := hcs
      exact code_of_row (zs := []) (.inl ⟨rfl, rfl, rfl, rfl⟩)
    · simp [Value.cells] at hcs
      obtain ⟨rfl, rfl, rfl⟩ := hcs
      exact code_of_row (zs := zs) (.inr ⟨_, rfl, hl, hm, by simpa using hz, hcell, hwz⟩)
  clear hA0
  refine (walk a0 len0 cap0 W w0).mono fun e W' ⟨he, bel⟩ => ?_
  subst he
  exact ⟨_, rfl, _, _, _, [], _, [], hW', trodAll_mk1 (shut_bool Tryz.underlying4 _), (trodAll_cons_mk (Below.trod laidOut (by kernel_rfl) (of_decide_eq_true (by kernel_rfl)) k0 bel lt0) trodAll_mk0), rfl, bel.frame _, fun h => by cases h⟩
theorem laid_met (os : Os) : laidMet Tryz.prog Rows.fnNextReachRow.laid ((putAll (World.settled Tryz.prog os).heap.size (World.holding Tryz.prog os ⟨errBlocks, #[], []⟩)).forCall (fun _ _ => 0) ⟨#[], #[.slice none 0 0], []⟩).memory :=
  laidMet_of_run' 10 (by kernel_rfl) (by kernel_rfl)
theorem reads (os : Os) {H : Type} (enc : TypeId × Value → H) : ∃ places, DataW.whole enc Tryz.prog ((putAll (World.settled Tryz.prog os).heap.size (World.holding Tryz.prog os ⟨errBlocks, #[], []⟩)).forCall (fun _ _ => 0) ⟨#[], #[.slice none 0 0], []⟩).memory Tryz.f10.params.toList Rows.fnNextReachSpec.vars false #[.slice none 0 0].toList 8 = some ([.nil], [], places) :=
  ⟨[], by kernel_rfl⟩
set_option maxRecDepth 100000 in
theorem lifted (os : Os) (started : os.Started) (H : Type) (enc : TypeId × Value → H) (F : Stop.Interp) :
    ReturnsInHanded {} Tryz.checked os 10 .any ((OpenSpec.ofChange Rows.fnNextReachSpec).preRow enc Tryz.prog Tryz.f10 Rows.fnNextReachRow.domain false Rows.fnNextReachRow.laid) (((OpenSpec.ofChange Rows.fnNextReachSpec).at F).post enc Tryz.prog Tryz.f10 false true false false) := by
  obtain ⟨places, hx⟩ := reads os enc
  refine returnsInHanded_of_row (C := Tryz.checked) (s := OpenSpec.ofChange Rows.fnNextReachSpec) own started (by kernel_rfl) Tryz.func10
    (witness_row_atRef (enc := enc) (C := Tryz.checked) false (putAll (World.settled Tryz.prog os).heap.size (World.holding Tryz.prog os ⟨errBlocks, #[], []⟩)) #[.slice none 0 0] rfl (by kernel_rfl) (by kernel_rfl) (by kernel_rfl)
      (OpenSpec.preRow_of_cond 8 hx (by kernel_rfl) (fun k hk => by cases hk) (by kernel_rfl) (laid_met os))) ?_
  intro W base args ds gs before hval hW _ _ _ hL _ _
  exact contract H enc W base args ds gs before hval hW hL
set_option maxRecDepth 100000 in
theorem said : Rows.FnNextReachSaid :=
  OpenClaim.holds_of_cond 10 Tryz.f10 rfl rfl rfl rfl rfl rfl rfl ⟨rfl, rfl, rfl, rfl, rfl⟩ rfl rfl rfl rfl rfl (by kernel_rfl) Tryz.func10 FcFnNextReach.closed
    (of_decide_eq_true (by kernel_rfl)) (by unfold Func.isWrapper; first | (rw [if_pos (by decide +kernel)]; kernel_rfl) | (rw [if_neg (by decide +kernel)]; exact ⟨rfl, rfl⟩))
    (fun os started H enc _ F => by rw [OpenClaim.pre_eq_preRow]; exact lifted os started H enc F)
theorem plain (f : FuncId) (fn : Func) (hf : Tryz.pinned.checked.prog.funcNamed Rows.fnNextReachRow.func = some f) (hfn : Tryz.pinned.checked.prog.funcs[f]? = some fn) :
    true = Tryz.pinned.checked.prog.looks [] ∧ ∀ (j : Nat) t, fn.params[j]? = some t → Tryz.pinned.checked.prog.wantsStandIn t = false := by
  obtain rfl : f = 10 := Option.some.inj ((show Tryz.prog.funcNamed Rows.fnNextReachRow.func = some 10 by kernel_rfl).symm.trans hf) |>.symm
  obtain rfl : fn = Tryz.f10 := (Option.some.inj (Tryz.func10.symm.trans hfn)).symm
  refine ⟨by kernel_rfl, fun j t ht => ?_⟩
  rw [Tryz.params10] at ht
  obtain rfl : t = 22 := by simpa using Array.mem_of_getElem? ht
  exact (show Tryz.prog.wantsStandIn 22 = false by kernel_rfl)
theorem card : Rows.FnNextReachCardSaid :=
  Claim7.holds_tied_plain_at .later [] _ _ _ _ said (fun _ h => by cases h) (by kernel_rfl) (fun _ h => by cases h) fnNextReach_row_tie rfl ⟨rfl, rfl⟩ (by kernel_rfl) rfl plain (by kernel_rfl)
end NextReach

/-- the given statement -/
theorem nextReach_holds : Rows.FnNextReachCardSaid := NextReach.card
#print axioms nextReach_holds
end Go.Proofs.YtjhpaoadpcnlnaaGreatDoor
