/-
  impl.CodeOk over this translation: at every row of steps it answers codeB; nothing that was there turns.
  impl.CodeFull over this translation: what is full ahead of each step, in a row of its own; nothing that was there turns.
  What CodeReach answers at any argument, apart from any program. No condition.
  impl.CodeReach over this translation: the places that are come to, in a row of their own; nothing that was there turns.
  impl.CodeNext over this translation: the places to which one comes from a place, in a row of their own; nothing that was there turns.
-/
import Derived.Test.YtjhpaoadpcnlnaaGreatDoorZa02
import Derived.Test.YtjhpaoadpcnlnaaGreatDoorZa22
import Derived.Test.YtjhpaoadpcnlnaaGreatDoorZa20
import Derived.Test.YtjhpaoadpcnlnaaGreatDoorZa15
import Derived.Deep.LoopGhost
namespace Go.Proofs.YtjhpaoadpcnlnaaGreatDoor
open Go.ChangeShapes Go.WideShapes Go.ChangeAt Go.RowKit Go.Joins
set_option maxHeartbeats 2000000 in
theorem implCodeOk_any (C : List OpV) (ao : Option Addr) (cap : Nat) (w : World) (hl : C.length ≤ 1048576) (h : CodeAt w ao C) :
    Calls Tryz.prog 26 #[.slice ao C.length cap] w fun e w' => e = .returned (.bool (codeB C)) ∧ Below w.heap.size w w' := by
  by_cases hn : C.length < 1
  · have : C = [] := by cases C with | nil => rfl | cons a l => simp at hn
    subst this
    go_enter Tryz.func26, Tryz.ntmps26
    go_wp2_with fail
    go_ret
    exact ⟨rfl, Below.refl _ _⟩
  by_cases hx : 16 < C.length
  · go_enter Tryz.func26, Tryz.ntmps26
    go_wp2_with fail
    go_ret
    have e : codeB C = false := by
      have : decide (C.length ≤ 16) = false := by simp; omega
      simp [codeB, this]
    exact ⟨by rw [e]; rfl, Below.refl _ _⟩
  rcases h with rfl | ⟨b, o, rfl, hlt, hs⟩
  · exact absurd (by decide) hn
  · go_enter Tryz.func26, Tryz.ntmps26
    go_wp2_with fail
    go_loopw [15] (fun i wr => ∃ k : Nat, k ≤ C.length ∧ i = .int .i64 k ∧ Below w.heap.size w wr ∧ UptoOk C k) (fun i _ => C.length - (intOf i).toNat)
    case atStart => exact ⟨0, Nat.zero_le _, rfl, Below.refl _ _, fun j _ h => by omega⟩
    case round =>
      obtain ⟨k, hk, rfl, hB, hU⟩ := hrel
      by_cases hlt' : k < C.length
      · have s := hs k hlt'
        obtain ⟨c0, c1, c2, c3, c4, c5⟩ := s.below (w' := wr) (by exact hB)
        obtain ⟨x, hx0⟩ : ∃ x, x = C[k] := ⟨_, rfl⟩
        rw [← hx0] at c0 c1 c2 c3 c4 c5
        have hx : Hid (x = C[k]) := hx0
        clear hx0 s
        have hbw := hB.size
        go_wp2_with fail
        refine (implOpOk_any _ _ _ _ _ _ _).mono ?_
        rintro e w1 ⟨rfl, hb1⟩
        obtain ⟨hc1, _⟩ := bcell hb1
        have d3 : w1.cell? ⟨wr.heap.size, 3, none⟩ = some (.int .i64 x.t) := by rw [hc1 _ _ (by simp)]; simp [go_sem]
        have hB1 : Below w.heap.size w w1 := (hB.alloc hbw _).trans (hb1.mono (by simp; omega))
        clear hc1 hb1 c0 c1 c2 c3 c4 c5
        cases hok : opB x.k x.r x.s x.t x.a x.b with
        | false =>
          go_wp2_with fail
          go_ret
          exact ⟨by rw [codeB_no hlt' (.inl (by rw [← hx.out]; exact hok))]; rfl, hB1⟩
        | true =>
          have hn : ∀ t, x.t < (C.length : Int) → t = k + 1 → UptoOk C t := by
            rintro t ht rfl j hj hjk
            by_cases e : j < k
            · exact hU j hj e
            · have : j = k := by omega
              subst this
              rw [← hx.out]
              exact ⟨hok, ht⟩
          by_cases ht : x.t < (C.length : Int)
          · go_wp2_with fail
            go_roundw
            case rel => exact ⟨k + 1, by omega, by go_num, hB1, hn _ ht rfl⟩
            case measure => simp [intOf]; omega
          · go_wp2_with fail
            go_ret
            exact ⟨by rw [codeB_no hlt' (.inr (by rw [← hx.out]; omega))]; rfl, hB1⟩
      · have e : k = C.length := by omega
        subst e
        go_wp2_with fail
        go_ret
        refine ⟨?_, hB⟩
        rw [codeB_all hU]
        have e1 : decide (1 ≤ C.length) = true := by simp; omega
        have e2 : decide (C.length ≤ 16) = true := by simp; omega
        rw [e1, e2]; rfl
end Go.Proofs.YtjhpaoadpcnlnaaGreatDoor
namespace Go.Proofs.YtjhpaoadpcnlnaaGreatDoor
open Go.ChangeShapes Go.WideShapes Go.ChangeAt Go.RowKit Go.Joins
/-- the first k are -1 -/
def fillL (n k : Nat) : List Int := List.replicate k (-1) ++ List.replicate (n - k) 0
theorem fillL_len (n k : Nat) (h : k ≤ n) : (fillL n k).length = n := by simp [fillL]; omega
theorem fillL_step (n k : Nat) (h : k < n) : (fillL n k).set k (-1) = fillL n (k + 1) := by
  unfold fillL
  rw [List.set_append_right _ _ (by simp), List.length_replicate, Nat.sub_self, show n - k = (n - (k + 1)) + 1 by omega, List.replicate_succ, List.set_cons_zero, List.replicate_succ', List.append_assoc]; rfl
set_option maxRecDepth 20000 in
set_option maxHeartbeats 8000000 in
theorem implCodeFull_any (C : List OpV) (ao : Option Addr) (cap : Nat) (w : World) (hl : C.length ≤ 1048576) (h : CodeAt w ao C) :
    Calls Tryz.prog 29 #[.slice ao C.length cap] w fun e w' => ∃ v L, e = .returned v ∧ FullOf C L ∧ Owns w' w.heap.size v L ∧ Below w.heap.size w w' := by
  go_enter Tryz.func29, Tryz.ntmps29
  go_wp2_with fail
  refine (implCodeOk_any C ao cap _ hl h).mono ?_
  rintro e w1 ⟨rfl, hb1⟩
  cases hC : codeB C with
  | false =>
    go_wp2_with fail
    go_ret
    exact ⟨_, [], rfl, .inr ⟨hC, rfl⟩, ⟨rfl, .inl ⟨rfl, rfl⟩⟩, hb1⟩
  | true =>
  obtain ⟨hw, hl16, hok⟩ := codeB_well hC
  obtain ⟨inf, i1, i2, i3, i4⟩ := info_intI
  have hz1 := hb1.size
  go_wp2_with (refine wpList_make_full _ rfl (.tmp 12) (.tmp 12) 38 rfl w1.heap.size 3 inf _ 1 Tryz.underlying38 i1 i2 i3 .i64 .i64 _ _ C.length rfl rfl rfl rfl (by rw [i4]; omega) (by unfold maxLen; omega) (Nat.le_refl _) ?_; intro w2 ho hg2)
  have hF : Bits w2 w1.heap.size (fillL C.length 0) := by
    have e : (madeCells (Value.cells (.int .i64 0)) (C.length * 1)).toList = (fillL C.length 0).map (Value.int .i64) := by
      show (madeCells #[.int .i64 0] (C.length * 1)).toList = _
      rw [toList_madeCells_one]; simp [fillL]
    rw [e] at ho
    have hfl := fillL_len C.length 0 (Nat.zero_le _)
    unfold Bits
    rw [hfl]
    exact ho
  have hz2 := hg2.size
  have hB2 : Below w.heap.size w w2 := hb1.grown hg2 (by omega) (by intro k hk; cases hk)
  have hB12 : Below w1.heap.size w1 w2 := (Below.refl _ _).grown hg2 (by omega) (by intro k hk; cases hk)
  have hcode : CodeAt w1 ao C := h.below hb1
  clear ho hg2 h
  generalize hFe : w1.heap.size = F at *
  go_loopw [16] (fun i wr => ∃ k : Nat, k ≤ C.length ∧ i = .int .i64 k ∧ Bits wr F (fillL C.length k) ∧ Below F w2 wr ∧ wr.heap.size = w2.heap.size) (fun i _ => C.length - (intOf i).toNat)
  case atStart => exact ⟨0, Nat.zero_le _, rfl, hF, Below.refl _ _, rfl⟩
  case round =>
    clear hF
    obtain ⟨k, hk, rfl, hF, hB, hsz⟩ := hrel
    have hfl := fillL_len C.length k hk
    by_cases hlt : k < C.length
    · have c0 := hF.cell (i := k) (by rw [hfl]; exact hlt)
      have f0 := hF.free k
      have hF' := hF.set k (-1)
      rw [fillL_step _ _ hlt] at hF'
      have R : Hid (Bits (wr.setCell ⟨F, k, none⟩ (.int .i64 (-1))) F (fillL C.length (k + 1))) := hF'
      clear hF hF' hfl
      generalize atV (fillL C.length k) k = x0 at *
      have hsz' : Hid (wr.heap.size = w2.heap.size) := hsz
      clear hsz
      go_wp2_with fail
      go_roundw
      case rel => exact ⟨k + 1, by omega, by go_num, R.out, hB.setCell (by exact Nat.le_refl _) _, by simp [World.setCell]; exact hsz'.out⟩
      case measure => simp [intOf]; omega
    · have e : k = C.length := by omega
      subst e
      have hF0 : Hid (Bits wr F (List.replicate C.length (-1))) := by
        show Bits wr F (List.replicate C.length (-1))
        have e : fillL C.length C.length = List.replicate C.length (-1) := by simp [fillL]
        rw [← e]; exact hF
      clear hF hfl
      go_wp2_with fail
      have hlt2 : F < w2.heap.size := by have := (Bits.lt hF0.out); omega
      go_loopg [5] (3 * sumR (List.replicate C.length (-1)) + 1) (fun gk v5 wx => ∃ V Q, gk = 3 * sumR V + Q.length ∧ gk ≤ 241 ∧ Bits wx F V ∧ QAt wx w2.heap.size v5 Q ∧ Inv C V Q ∧ Below F w2 wx ∧ w2.heap.size ≤ wx.heap.size)
      case atStart =>
        refine ⟨List.replicate C.length (-1), [(0, 1)], rfl, by have := sum_le (List.replicate C.length (-1)); simp at this; omega, hF0.out.keep (Below.heap_alloc _ _ _ (by omega)), ?_, inv_start hw, hB.alloc (by omega) _, by simp; omega⟩
        refine ⟨_, 1, rfl, by simp, by decide, .inr ⟨w2.heap.size, 0, rfl, Nat.le_refl _, by simp; omega, fun j hj => ?_, fun j hj => ?_⟩⟩
        · have e : j = 0 ∨ j = 1 := by simp at hj; omega
          rcases e with rfl | rfl <;> simp [go_sem, wayCells, ← hsz]
        · have e : j = 0 ∨ j = 1 := by simp at hj; omega
          rcases e with rfl | rfl <;> simp [go_sem, ← hsz]
      case round =>
        clear hF0 hB hsz
        obtain ⟨V, Q, hgk, hgb, hF, ⟨ao2, cap2, rfl, hq1, hq2, hq3⟩, hI, hB, hzx⟩ := hrel
        have hVl : V.length = C.length := hI.1.1
        cases Q with
        | nil =>
          go_wp2_with fail
          go_ret
          refine ⟨_, V, rfl, .inl ⟨hC, inv_done hI⟩, ?_, ?_⟩
          · have hO : Owns wr F (.slice (some ⟨F, 0, none⟩) V.length V.length) V := hF
            rw [hVl] at hO
            exact Owns.mono hO (by omega)
          · exact hB2.trans (hB.mono (by omega))
        | cons p Q =>
          rcases hq3 with h0 | ⟨g, o, rfl, hg, hgl, hc, hf⟩
          · exact absurd hq1 (by rw [h0]; simp)
          have hs := hI.2.2.1 p (by simp)
          have hp := hs.1
          have c0 : wr.cell? ⟨g, o, none⟩ = some (.int .i64 (p.1 : Int)) := hc 0 (by simp)
          have c1 : wr.cell? ⟨g, o + 1, none⟩ = some (.int .i64 p.2) := hc 1 (by simp; omega)
          have d0 := hF.cell (i := p.1) (by rw [hVl]; exact hp)
          have f0 := hF.free p.1
          have hgF : g ≠ F := by omega
          simp only [List.length_cons] at hq1 hgk
          have hand := and_i64 (hI.1.2 p.1) hs.2.1.1 hs.2.1.2
          generalize hx : atV V p.1 = x at *
          generalize hm : meet x p.2 = m at *
          have hx' : Hid (atV V p.1 = x) := hx
          have hm' : Hid (meet x p.2 = m) := hm
          clear hx hm
          have hc' : Hid (∀ j, j < (Q.length + 1) * 2 → wr.cell? ⟨g, o + j, none⟩ = (wayCells (p :: Q))[j]?) := hc
          have hf' : Hid (∀ j, j < cap2 * 2 → (wr.cell? ⟨g, o + j, none⟩).isSome = true ∧ wr.frozen? ⟨g, o + j, none⟩ = false) := hf
          clear hc hf
          have hFl : F < wr.heap.size := by omega
          have hpi : (p.1 : Int) < (C.length : Int) := by omega
          by_cases hc1 : cap2 = 1
          · subst hc1
            have hQ0 : Q = [] := List.eq_nil_of_length_eq_zero (by omega)
            have hq : QAt wr w2.heap.size (.slice (some ⟨g, o, none⟩) 0 0) Q := by
              have := QAt.tail (cap := 1) (ao := some ⟨g, o, none⟩) hq1 hq2 hg hgl hc'.out hf'.out (.inl rfl)
              rw [hQ0] at this ⊢
              exact this
            clear hQ0
            go_wp2_with fail
            generalize (Value.slice (some ⟨g, o, none⟩) 0 0) = v5 at *
            go_quiet (fail)
            have hWk : ∀ k, k < wr.heap.size → ((wr.alloc (.cells #[.int .i64 (p.1 : Int), .int .i64 p.2] 81)).drewN nq).heap[k]? = wr.heap[k]? := fun k hk => Below.heap_alloc wr _ k hk
            have hWb : Below F wr ((wr.alloc (.cells #[.int .i64 (p.1 : Int), .int .i64 p.2] 81)).drewN nq) := below_drewN ((Below.refl _ _).alloc (by omega) _) nq
            have hWz : ((wr.alloc (.cells #[.int .i64 (p.1 : Int), .int .i64 p.2] 81)).drewN nq).heap.size = wr.heap.size + 1 := by simp [World.drewN]
            by_cases he : m = x
            · have he' : (m == x) = true := by simp [he]
              have hI' : Hid (Inv C V Q) := inv_same hI (by rw [hx'.out, hm'.out]; exact he)
              have hWk' : Hid (∀ k, k < wr.heap.size → ((wr.alloc (.cells #[.int .i64 (p.1 : Int), .int .i64 p.2] 81)).drewN nq).heap[k]? = wr.heap[k]?) := hWk
              clear he hI hWk hWz
              go_wp2_with fail
              go_roundg (3 * sumR V + Q.length)
              case measure => omega
              case rel =>
                exact ⟨V, Q, rfl, by omega, hF.keep (hWk'.out F hFl), hq.keep (by simp [World.drewN]) (fun k _ hk => hWk'.out k hk), hI'.out, hB.trans hWb, by simp [World.drewN]; omega⟩
            · have he' : (m == x) = false := by simp [he]
              have hmb : Hid (Bd m ∧ 0 ≤ m) := by
                have hb := meet_bd (hI.1.2 p.1) hs.2.1.1 hs.2.1.2
                rw [hx'.out, hm'.out] at hb
                exact ⟨⟨by omega, hb.2⟩, hb.1⟩
              have hI' : Hid (Inv C (V.set p.1 m) (Q ++ waysL C[p.1] p.1 C.length m)) := by
                have := inv_less hw hI hp
                rw [hx'.out, hm'.out] at this
                exact this
              have hms : Hid (sumR (V.set p.1 m) < sumR V) := by
                have := sum_merge hI.1 hs (by rw [hx'.out, hm'.out]; exact he)
                rw [hx'.out, hm'.out] at this
                exact this
              have hF1 : Hid (Bits (((wr.alloc (.cells #[.int .i64 (p.1 : Int), .int .i64 p.2] 81)).drewN nq).setCell ⟨F, p.1, none⟩ (.int .i64 m)) F (V.set p.1 m)) := (hF.keep (hWk F hFl)).set p.1 m
              have hq1' : Hid (QAt (((wr.alloc (.cells #[.int .i64 (p.1 : Int), .int .i64 p.2] 81)).drewN nq).setCell ⟨F, p.1, none⟩ (.int .i64 m)) w2.heap.size v5 Q) :=
                (hq.keep (by rw [hWz]; omega) (fun k _ hk => hWk k hk)).keep (by simp [World.setCell]) (fun k hk _ => Below.heap_setCell _ _ _ _ (by dsimp only; omega))
              have hWb' : Hid (Below F wr (((wr.alloc (.cells #[.int .i64 (p.1 : Int), .int .i64 p.2] 81)).drewN nq).setCell ⟨F, p.1, none⟩ (.int .i64 m))) := hWb.setCell (by exact Nat.le_refl _) _
              clear he hWk hF hq hWb hWz
              go_wp2_with fail
              generalize hWe : (((wr.alloc (.cells #[.int .i64 (p.1 : Int), .int .i64 p.2] 81)).drewN nq).setCell ⟨F, p.1, none⟩ (.int .i64 m)) = W at *
              have hzW : wr.heap.size + 1 = W.heap.size := by rw [← hWe]; simp [World.setCell, World.drewN]
              clear hWe
              refine (ways_any C ao cap p.1 m W hC (hcode.below (by rw [hFe]; exact hB12.trans (hB.trans hWb'.out))) hp hmb.out.1 hmb.out.2).mono ?_
              rintro e W2 ⟨v6, rfl, ho6, hb6⟩
              have hat := OwnsW.at ho6
              have hz6 := hb6.size
              have hF2 : Hid (Bits W2 F (V.set p.1 m)) := hF1.out.keep (hb6.block F (by omega))
              have hq2' : Hid (QAt W2 w2.heap.size v5 Q) := hq1'.out.below hb6
              have hwl := ways_len C[p.1] p.1 C.length m
              generalize waysL C[p.1] p.1 C.length m = L at *
              clear ho6
              go_wp2_with (refine wpList_append_queue _ rfl (.tmp 53) (.tmp 58) rfl rfl rfl hq2'.out hat (by omega) (by omega) ?_; intro v7 W3 hq7 hb7)
              go_roundg (3 * sumR (V.set p.1 m) + (Q ++ L).length)
              case measure => have := hms.out; simp; omega
              case rel =>
                have hms2 := hms.out
                have hz7 := hb7.size
                exact ⟨V.set p.1 m, Q ++ L, rfl, by simp; omega, hF2.out.keep (hb7.block F (by omega)), hq7, hI'.out, hB.trans (hWb'.out.trans ((hb6.mono (by omega)).trans (hb7.mono (by omega)))), by omega⟩
          · have hq : QAt wr w2.heap.size (.slice (some ⟨g, o + 2, none⟩) Q.length (cap2 - 1)) Q := QAt.tail hq1 hq2 hg hgl hc'.out hf'.out (.inr rfl)
            have hc2 : 2 ≤ cap2 := by omega
            go_wp2_with fail
            generalize (Value.slice (some ⟨g, o + 2, none⟩) Q.length (cap2 - 1)) = v5 at *
            go_quiet (fail)
            have hWk : ∀ k, k < wr.heap.size → ((wr.alloc (.cells #[.int .i64 (p.1 : Int), .int .i64 p.2] 81)).drewN nq).heap[k]? = wr.heap[k]? := fun k hk => Below.heap_alloc wr _ k hk
            have hWb : Below F wr ((wr.alloc (.cells #[.int .i64 (p.1 : Int), .int .i64 p.2] 81)).drewN nq) := below_drewN ((Below.refl _ _).alloc (by omega) _) nq
            have hWz : ((wr.alloc (.cells #[.int .i64 (p.1 : Int), .int .i64 p.2] 81)).drewN nq).heap.size = wr.heap.size + 1 := by simp [World.drewN]
            by_cases he : m = x
            · have he' : (m == x) = true := by simp [he]
              have hI' : Hid (Inv C V Q) := inv_same hI (by rw [hx'.out, hm'.out]; exact he)
              have hWk' : Hid (∀ k, k < wr.heap.size → ((wr.alloc (.cells #[.int .i64 (p.1 : Int), .int .i64 p.2] 81)).drewN nq).heap[k]? = wr.heap[k]?) := hWk
              clear he hI hWk hWz
              go_wp2_with fail
              go_roundg (3 * sumR V + Q.length)
              case measure => omega
              case rel =>
                exact ⟨V, Q, rfl, by omega, hF.keep (hWk'.out F hFl), hq.keep (by simp [World.drewN]) (fun k _ hk => hWk'.out k hk), hI'.out, hB.trans hWb, by simp [World.drewN]; omega⟩
            · have he' : (m == x) = false := by simp [he]
              have hmb : Hid (Bd m ∧ 0 ≤ m) := by
                have hb := meet_bd (hI.1.2 p.1) hs.2.1.1 hs.2.1.2
                rw [hx'.out, hm'.out] at hb
                exact ⟨⟨by omega, hb.2⟩, hb.1⟩
              have hI' : Hid (Inv C (V.set p.1 m) (Q ++ waysL C[p.1] p.1 C.length m)) := by
                have := inv_less hw hI hp
                rw [hx'.out, hm'.out] at this
                exact this
              have hms : Hid (sumR (V.set p.1 m) < sumR V) := by
                have := sum_merge hI.1 hs (by rw [hx'.out, hm'.out]; exact he)
                rw [hx'.out, hm'.out] at this
                exact this
              have hF1 : Hid (Bits (((wr.alloc (.cells #[.int .i64 (p.1 : Int), .int .i64 p.2] 81)).drewN nq).setCell ⟨F, p.1, none⟩ (.int .i64 m)) F (V.set p.1 m)) := (hF.keep (hWk F hFl)).set p.1 m
              have hq1' : Hid (QAt (((wr.alloc (.cells #[.int .i64 (p.1 : Int), .int .i64 p.2] 81)).drewN nq).setCell ⟨F, p.1, none⟩ (.int .i64 m)) w2.heap.size v5 Q) :=
                (hq.keep (by rw [hWz]; omega) (fun k _ hk => hWk k hk)).keep (by simp [World.setCell]) (fun k hk _ => Below.heap_setCell _ _ _ _ (by dsimp only; omega))
              have hWb' : Hid (Below F wr (((wr.alloc (.cells #[.int .i64 (p.1 : Int), .int .i64 p.2] 81)).drewN nq).setCell ⟨F, p.1, none⟩ (.int .i64 m))) := hWb.setCell (by exact Nat.le_refl _) _
              clear he hWk hF hq hWb hWz
              go_wp2_with fail
              generalize hWe : (((wr.alloc (.cells #[.int .i64 (p.1 : Int), .int .i64 p.2] 81)).drewN nq).setCell ⟨F, p.1, none⟩ (.int .i64 m)) = W at *
              have hzW : wr.heap.size + 1 = W.heap.size := by rw [← hWe]; simp [World.setCell, World.drewN]
              clear hWe
              refine (ways_any C ao cap p.1 m W hC (hcode.below (by rw [hFe]; exact hB12.trans (hB.trans hWb'.out))) hp hmb.out.1 hmb.out.2).mono ?_
              rintro e W2 ⟨v6, rfl, ho6, hb6⟩
              have hat := OwnsW.at ho6
              have hz6 := hb6.size
              have hF2 : Hid (Bits W2 F (V.set p.1 m)) := hF1.out.keep (hb6.block F (by omega))
              have hq2' : Hid (QAt W2 w2.heap.size v5 Q) := hq1'.out.below hb6
              have hwl := ways_len C[p.1] p.1 C.length m
              generalize waysL C[p.1] p.1 C.length m = L at *
              clear ho6
              go_wp2_with (refine wpList_append_queue _ rfl (.tmp 53) (.tmp 58) rfl rfl rfl hq2'.out hat (by omega) (by omega) ?_; intro v7 W3 hq7 hb7)
              go_roundg (3 * sumR (V.set p.1 m) + (Q ++ L).length)
              case measure => have := hms.out; simp; omega
              case rel =>
                have hms2 := hms.out
                have hz7 := hb7.size
                exact ⟨V.set p.1 m, Q ++ L, rfl, by simp; omega, hF2.out.keep (hb7.block F (by omega)), hq7, hI'.out, hB.trans (hWb'.out.trans ((hb6.mono (by omega)).trans (hb7.mono (by omega)))), by omega⟩
end Go.Proofs.YtjhpaoadpcnlnaaGreatDoor
namespace Go.Proofs.YtjhpaoadpcnlnaaGreatDoor
/-- the places of a list, ascending -/
def sortR (n : Nat) (R : List Nat) : List Nat := (List.range n).filter fun i => R.contains i
def ReachOf (C : List OpV) (L : List Int) : Prop := (codeB C = true ∧ ∃ R, IsReach C (fun x => x ∈ R) ∧ L = toI (sortR C.length R)) ∨ (codeB C = false ∧ L = [])
theorem reach_one {C : List OpV} {R T : List Nat} (h : IsReach C (fun x => x ∈ R)) (k : IsReach C (fun x => x ∈ T)) : sortR C.length R = sortR C.length T := by
  unfold sortR
  apply List.filter_congr
  intro i hi
  have hi := List.mem_range.1 hi
  rw [Bool.eq_iff_iff, List.contains_iff_mem, List.contains_iff_mem]
  exact ⟨fun x => h.2 _ k.1 i hi x, fun x => k.2 _ h.1 i hi x⟩
theorem reachOf_one {C : List OpV} {L M : List Int} (h : ReachOf C L) (k : ReachOf C M) : L = M := by
  rcases h with ⟨h, R, a, rfl⟩ | ⟨h, rfl⟩
  · rcases k with ⟨_, T, b, rfl⟩ | ⟨k, _⟩
    · rw [reach_one a b]
    · rw [h] at k; cases k
  · rcases k with ⟨k, _⟩ | ⟨_, rfl⟩
    · rw [h] at k; cases k
    · rfl
theorem reachOf_len {C : List OpV} {L : List Int} (h : ReachOf C L) : L.length ≤ C.length := by
  rcases h with ⟨_, R, _, rfl⟩ | ⟨_, rfl⟩
  · rw [toI_len]; unfold sortR
    have := List.length_filter_le (fun i => R.contains i) (List.range C.length)
    simpa using this
  · simp
/-- the places where something is full, ahead of k -/
def fullTo (V : List Int) (k : Nat) : List Nat := (List.range k).filter fun i => !(atV V i == -1)
theorem fullTo_step (V : List Int) (k : Nat) : fullTo V (k + 1) = if atV V k = -1 then fullTo V k else fullTo V k ++ [k] := by
  unfold fullTo
  rw [List.range_succ, List.filter_append]
  by_cases h : atV V k = -1
  · simp [h]
  · simp [h]
theorem fullTo_len (V : List Int) (k : Nat) : (fullTo V k).length ≤ k := by
  have := List.length_filter_le (fun i => !(atV V i == -1)) (List.range k)
  simpa [fullTo] using this
theorem full_reachOf {C : List OpV} (hC : codeB C = true) {V : List Int} (h : IsFull C V) : ReachOf C (toI (fullTo V C.length)) := by
  have hw := (codeB_well hC).1
  have hS : IsReach C (fun i => ∀ T, Shut C T → T i) := ⟨⟨fun T hT => hT.1, fun i hi hs j hj T hT => hT.2 i hi (hs T hT) j hj⟩, fun T hT i _ hs => hs T hT⟩
  have key := fun i (hi : i < C.length) => full_reach hw h hS i hi
  have hm : ∀ i, i ∈ fullTo V C.length ↔ i < C.length ∧ 0 ≤ atV V i := by
    intro i
    have hb := h.1.1.2 i
    unfold fullTo
    rw [List.mem_filter, List.mem_range]
    constructor
    · rintro ⟨h1, h2⟩; simp at h2; exact ⟨h1, by have := hb.1; omega⟩
    · rintro ⟨h1, h2⟩; exact ⟨h1, by simp; omega⟩
  have hR : IsReach C (fun x => x ∈ fullTo V C.length) := by
    refine ⟨⟨(hm 0).2 ⟨hw.1, (key 0 hw.1).2 hS.1.1⟩, fun i hi hx j hj => ?_⟩, fun T hT i hi hx => (key i hi).1 ((hm i).1 hx).2 T hT⟩
    have hs := (key i hi).1 ((hm i).1 hx).2
    have hj' := next_lt hw hi j hj
    exact (hm j).2 ⟨hj', (key j hj').2 (hS.1.2 i hi hs j hj)⟩
  refine .inl ⟨hC, fullTo V C.length, hR, ?_⟩
  congr 1
  unfold sortR
  conv => lhs; unfold fullTo
  apply List.filter_congr
  intro i hi
  have hi := List.mem_range.1 hi
  rw [Bool.eq_iff_iff, List.contains_iff_mem, hm]
  have hb := (h.1.1.2 i).1
  constructor
  · intro h2; simp at h2; exact ⟨hi, by omega⟩
  · rintro ⟨_, h2⟩; simp; omega
end Go.Proofs.YtjhpaoadpcnlnaaGreatDoor
namespace Go.Proofs.YtjhpaoadpcnlnaaGreatDoor
open Go.ChangeShapes Go.WideShapes Go.ChangeAt Go.RowKit Go.Joins
set_option maxHeartbeats 4000000 in
theorem implCodeReach_any (C : List OpV) (ao : Option Addr) (cap : Nat) (w : World) (hl : C.length ≤ 1048576) (h : CodeAt w ao C) :
    Calls Tryz.prog 36 #[.slice ao C.length cap] w fun e w' => ∃ v L, e = .returned v ∧ ReachOf C L ∧ Owns w' w.heap.size v L ∧ Below w.heap.size w w' := by
  obtain ⟨inf, i1, i2, i3, i4⟩ := info_intI
  go_enter Tryz.func36, Tryz.ntmps36
  go_wp2_with fail
  refine (implCodeFull_any C ao cap _ hl h).mono ?_
  rintro e w1 ⟨v1, V, rfl, hV, hO, hb1⟩
  have hVl := fullOf_len hV
  have hz1 := hb1.size
  obtain ⟨ao1, cap1, rfl, hcells⟩ := Owns.ints hO
  clear hO
  go_wp2_with fail
  go_loopw [3, 9] (fun v i wr => ∃ k : Nat, k ≤ V.length ∧ i = .int .i64 k ∧ Owns wr w1.heap.size v (toI (fullTo V k)) ∧ Below w1.heap.size w1 wr) (fun _ i _ => V.length - (intOf i).toNat)
  case atStart => exact ⟨0, Nat.zero_le _, rfl, ⟨rfl, .inl ⟨rfl, rfl⟩⟩, Below.refl _ _⟩
  case round =>
    obtain ⟨k, hk, rfl, ho, hB⟩ := hrel
    by_cases hlt : k < V.length
    · rcases hcells with rfl | ⟨b, o, rfl, hbl, hc⟩
      · exact absurd hlt (by simp)
      have c0 : wr.cell? ⟨b, o + k, none⟩ = some (.int .i64 (atV V k)) := by
        rw [hB.cell (p := ⟨b, o + k, none⟩) hbl, hc k hlt]
        simp [atV, List.getD_eq_getElem?_getD, List.getElem?_eq_getElem hlt]
      have hst : Hid (fullTo V (k + 1) = if atV V k = -1 then fullTo V k else fullTo V k ++ [k]) := fullTo_step V k
      have hfl := fullTo_len V k
      have hzr := hB.size
      generalize atV V k = x at *
      generalize hM : fullTo V k = M at *
      clear hM hc
      by_cases hx : x = -1
      · have hx' : (x != -1) = false := by simp [hx]
        have hst2 : Hid (fullTo V (k + 1) = M) := by show fullTo V (k + 1) = M; rw [hst.out, if_pos hx]
        clear hx
        go_wp2_with fail
        go_roundw
        case rel => exact ⟨k + 1, by omega, by go_num, by rw [hst2.out]; exact ho, hB⟩
        case measure => simp [intOf]; omega
      · have hx' : (x != -1) = true := by simp [hx]
        have hst2 : Hid (fullTo V (k + 1) = M ++ [k]) := by show fullTo V (k + 1) = M ++ [k]; rw [hst.out, if_neg hx]
        clear hx
        go_wp2_with (refine wpList_append_own _ rfl (.tmp 16) (.tmp 18) 38 rfl w1.heap.size 3 inf (.int .i64 0) 1 8 Tryz.underlying38 i1 i2 i3 i4 rfl (by decide) _ _ _ rfl (World.ownsRow.alloc ho _) ⟨wr.heap.size, 0, none⟩ 1 1 [.int .i64 (k : Int)] rfl rfl (by intro q u hq; cases q with | zero => simp at hq; subst hq; simp [Addr.add, go_sem] | succ q => simp at hq) (by simp [Value.oneCell']) (by rw [toI_len]; unfold maxLen; omega) (by rw [toI_len]; omega) (by simp <;> omega) ?_; intro x0 w4 ho0 hg0 _)
        have hB4 : Below w1.heap.size w1 w4 := (hB.alloc (by omega) _).grown hg0 (by simp <;> omega) (by intro k hk; have := (World.ownsRow.lt ho k hk).1; omega)
        go_roundw
        case rel => exact ⟨k + 1, by omega, by go_num, by rw [hst2.out]; simpa [Owns, toI] using ho0, hB4⟩
        case measure => simp [intOf]; omega
    · have e : k = V.length := by omega
      subst e
      go_wp2_with fail
      go_ret
      refine ⟨_, toI (fullTo V V.length), rfl, ?_, Owns.mono ho (by omega), hb1.trans (hB.mono (by omega))⟩
      rcases hV with ⟨hC, hF⟩ | ⟨hC, rfl⟩
      · rw [show V.length = C.length from hF.1.1.1]; exact full_reachOf hC hF
      · exact .inr ⟨hC, rfl⟩
end Go.Proofs.YtjhpaoadpcnlnaaGreatDoor
namespace Go.Proofs.YtjhpaoadpcnlnaaGreatDoor
open Go.ChangeShapes Go.WideShapes Go.ChangeAt Go.RowKit Go.Joins
/-- the places to which one comes, at any argument -/
def nextI (C : List OpV) (i : Int) : List Int :=
  if codeB C = true ∧ 0 ≤ i ∧ i < C.length then toI (nextL (C.getD i.toNat ⟨0, 0, 0, 0, 0, 0⟩) i.toNat C.length) else []
theorem nextI_no {C : List OpV} {i : Int} (h : codeB C = false ∨ i < 0 ∨ (C.length : Int) ≤ i) : nextI C i = [] := by
  unfold nextI; rw [if_neg]; rintro ⟨h1, h2, h3⟩
  rcases h with h | h | h
  · rw [h] at h1; cases h1
  · omega
  · omega
theorem nextI_yes {C : List OpV} {i : Nat} (h : codeB C = true) (hi : i < C.length) : nextI C (i : Int) = toI (nextL C[i] i C.length) := by
  unfold nextI; rw [if_pos ⟨h, by omega, by omega⟩]
  have e : C.getD i ⟨0, 0, 0, 0, 0, 0⟩ = C[i] := by simp [List.getD_eq_getElem?_getD, List.getElem?_eq_getElem hi]
  rw [Int.toNat_natCast, e]
set_option maxHeartbeats 4000000 in
theorem implCodeNext_any (C : List OpV) (ao : Option Addr) (cap : Nat) (i : Int) (w : World) (hl : C.length ≤ 1048576) (h : CodeAt w ao C) :
    Calls Tryz.prog 39 #[.slice ao C.length cap, .int .i64 i] w fun e w' => ∃ v, e = .returned v ∧ Owns w' w.heap.size v (nextI C i) ∧ Below w.heap.size w w' := by
  go_enter Tryz.func39, Tryz.ntmps39
  go_wp2_with fail
  refine (implCodeOk_any C ao cap _ hl h).mono ?_
  rintro e w1 ⟨rfl, hb1⟩
  cases hC : codeB C with
  | false =>
    go_wp2_with fail
    go_ret
    exact ⟨_, rfl, by rw [nextI_no (.inl hC)]; exact ⟨rfl, .inl ⟨rfl, rfl⟩⟩, hb1⟩
  | true =>
  by_cases h0 : i < 0
  · go_wp2_with fail
    go_ret
    exact ⟨_, rfl, by rw [nextI_no (.inr (.inl h0))]; exact ⟨rfl, .inl ⟨rfl, rfl⟩⟩, hb1⟩
  by_cases h1 : (C.length : Int) ≤ i
  · go_wp2_with fail
    go_ret
    exact ⟨_, rfl, by rw [nextI_no (.inr (.inr h1))]; exact ⟨rfl, .inl ⟨rfl, rfl⟩⟩, hb1⟩
  obtain ⟨n, rfl⟩ := Int.eq_ofNat_of_zero_le (show 0 ≤ i by omega)
  have hn : n < C.length := by omega
  have hcode := h.below hb1
  have hz1 := hb1.size
  go_wp2_with fail
  refine (ways_any C ao cap n 1 _ hC hcode hn ⟨by decide, by decide⟩ (by decide)).mono ?_
  rintro e w2 ⟨v, rfl, hov, hb2⟩
  have hat := OwnsW.at hov
  have hB2 : Below w.heap.size w w2 := hb1.trans (hb2.mono (by omega))
  have hz2 := hb2.size
  have hwl := ways_len C[n] n C.length 1
  have hL : Hid (nextI C (n : Int) = toI (addAll [] ((waysL C[n] n C.length 1).map (·.1)))) := by
    show nextI C (n : Int) = _
    rw [nextI_yes hC hn, waysAdd]
  clear hov hb2 hb1 h hcode
  generalize waysL C[n] n C.length 1 = L at *
  obtain ⟨ao2, cap2, rfl, hlc, hcells⟩ := hat
  obtain ⟨inf, i1, i2, i3, i4⟩ := info_intI
  go_wp2_with fail
  go_loopw [5, 25] (fun v i wr => ∃ k : Nat, k ≤ L.length ∧ i = .int .i64 k ∧ Owns wr w2.heap.size v (toI (addAll [] ((L.take k).map (·.1)))) ∧ Below w2.heap.size w2 wr) (fun _ i _ => L.length - (intOf i).toNat)
  case atStart => exact ⟨0, Nat.zero_le _, rfl, ⟨rfl, .inl ⟨rfl, rfl⟩⟩, Below.refl _ _⟩
  case round =>

    obtain ⟨k, hk, rfl, ho, hB⟩ := hrel
    by_cases hlt : k < L.length
    · rcases hcells with rfl | ⟨b, o, rfl, hbl, hc⟩
      · exact absurd hlt (by simp)
      obtain ⟨c0, c1⟩ := hc k hlt
      have d0 : wr.cell? ⟨b, o + k * 2, none⟩ = some (.int .i64 (L[k].1 : Int)) := (hB.cell (p := ⟨b, o + k * 2, none⟩) hbl).trans c0
      have d1 : wr.cell? ⟨b, o + k * 2 + 1, none⟩ = some (.int .i64 L[k].2) := (hB.cell (p := ⟨b, o + k * 2 + 1, none⟩) hbl).trans c1
      have hst := addAll_take [] L k hlt
      have hal := addAll_len ((L.take k).map (·.1)) []
      simp only [List.length_nil, List.length_map, List.length_take, Nat.zero_add] at hal
      have hS : Hid (addAll [] ((L.take (k + 1)).map (·.1)) = addL (addAll [] ((L.take k).map (·.1))) L[k].1) := hst
      generalize addAll [] ((L.take k).map (·.1)) = M at *
      generalize L[k].1 = m at *
      generalize L[k].2 = y at *
      have hzr := hB.size
      have hM : M.length ≤ 2 := by omega
      clear hc c0 c1 hst
      go_wp2_with fail
      have ho1 := World.ownsRow.alloc ho (.cells #[.int .i64 (m : Int), .int .i64 y] 81)
      refine (contains_any _ (toI M) _ (m : Int) _ (by rw [toI_len]; omega) (Owns.ints ho1)).mono ?_
      rintro e w3 ⟨rfl, rfl⟩
      rw [hasI_toI]
      cases hh : M.contains m with
      | true =>
        have hS2 : Hid (addAll [] ((L.take (k + 1)).map (·.1)) = M) := by
          show addAll [] ((L.take (k + 1)).map (·.1)) = M
          rw [hS.out]; unfold addL; rw [if_pos hh]
        go_wp2_with fail
        go_roundw
        case rel => exact ⟨k + 1, by omega, by go_num, by rw [hS2.out]; exact ho1, hB.alloc (by omega) _⟩
        case measure => simp [intOf]; omega
      | false =>
        have hS2 : Hid (addAll [] ((L.take (k + 1)).map (·.1)) = M ++ [m]) := by
          show addAll [] ((L.take (k + 1)).map (·.1)) = M ++ [m]
          rw [hS.out]; unfold addL; rw [if_neg (by rw [hh]; decide)]
        go_wp2_with (refine wpList_append_own _ rfl (.tmp 34) (.tmp 37) 38 rfl w2.heap.size 3 inf (.int .i64 0) 1 8 Tryz.underlying38 i1 i2 i3 i4 rfl (by decide) _ _ _ rfl (World.ownsRow.alloc ho1 _) ⟨wr.heap.size + 1, 0, none⟩ 1 1 [.int .i64 (m : Int)] rfl rfl (by intro q u hq; cases q with | zero => simp at hq; subst hq; simp [Addr.add, go_sem] | succ q => simp at hq) (by simp [Value.oneCell']) (by rw [toI_len]; unfold maxLen; omega) (by rw [toI_len]; omega) (by simp <;> omega) ?_; intro x0 w4 ho0 hg0 _)
        have hB4 : Below w2.heap.size w2 w4 := ((hB.alloc (by omega) _).alloc (by simp; omega) _).grown hg0 (by simp <;> omega) (by intro k hk; have := (World.ownsRow.lt ho k hk).1; omega)
        go_roundw
        case rel => exact ⟨k + 1, by omega, by go_num, by rw [hS2.out]; simpa [Owns, toI] using ho0, hB4⟩
        case measure => simp [intOf]; omega
    · have e : k = L.length := by omega
      subst e
      go_wp2_with fail
      go_ret
      exact ⟨_, rfl, by rw [hL.out]; rw [List.take_length] at ho; exact Owns.mono ho (by omega), hB2.trans (hB.mono (by omega))⟩
end Go.Proofs.YtjhpaoadpcnlnaaGreatDoor
