/-
  spec.CodeRead over this translation: at any text, the ok steps whose text it is, in a row of their own, or none; nothing that was there turns.
-/
import Derived.Test.YtekmjgkjpdhedaaGreatDoorSpecOpRead
import Derived.Test.YtekmjgkjpdhedaaGreatDoorLines
import Derived.Test.YtekmjgkjpdhedaaGreatDoorOwnOps
import Derived.Test.YtekmjgkjpdhedaaGreatDoorCodeOkS
namespace Go.Proofs.YtekmjgkjpdhedaaGreatDoor
open Go.ChangeShapes Go.WideShapes Go.ChangeAt Go.RowKit Go.Joins
set_option maxRecDepth 100000 in
set_option maxHeartbeats 8000000 in
theorem specCodeRead_any (x : List UInt8) (w : World) (hx : x.length ≤ 1048576) :
    Calls Tryz.prog 13 #[.string ⟨x.toArray⟩] w fun e w' => ∃ C v ok, e = .returned (.tuple #[v, .bool ok]) ∧ ReadCode x C ok ∧ OwnsO w' w.heap.size v C ∧ Below w.heap.size w w' := by
  have hz : (⟨x.toArray⟩ : ByteArray).size = x.length := ba_size _
  by_cases h400 : 400 < x.length
  · have g1 : (400 : Int) < (x.length : Int) := by omega
    go_enter Tryz.func13, Tryz.ntmps13
    go_wp2_with fail
    go_ret2
    exact ⟨[], _, false, rfl, read_long h400, ownsO_empty _ _ (Nat.le_refl _), (Below.refl _ _).alloc (Nat.le_refl _) _⟩
  · have g1 : ¬ (400 : Int) < (x.length : Int) := by omega
    go_enter Tryz.func13, Tryz.ntmps13
    go_wp2_with fail
    refine (l2Cut_any _ 10 _ (by rw [hz]; omega)).mono ?_
    rintro e w1 ⟨v, rfl, ho, hb1⟩
    have hz1 := hb1.size
    rw [show (⟨x.toArray⟩ : ByteArray).data.toList = x from by simp] at ho
    have hcl := cutsAt_len 10 x
    have hne := cutsAt_some 10 x
    generalize hPe : cutsAt 10 x = P at *
    replace hPe : Hid (cutsAt 10 x = P) := hPe
    obtain ⟨m, hm⟩ : ∃ m, P.length = m + 1 := ⟨P.length - 1, by have := List.length_pos_iff.2 hne; omega⟩
    rcases ho.2 with ⟨_, hn0⟩ | ⟨g, cap, cur, rfl, hg, hh, _⟩
    · omega
    have ho' : w1.ownsRow w.heap.size 9 1 (.slice (some ⟨g, 0, none⟩) P.length cap) P.length (P.map strV) := ho
    have hgb := ho'.lt g rfl
    have hc : Hid (∀ n, (h : n < P.length) → w1.cell? ⟨g, n, none⟩ = some (.string ⟨P[n].toArray⟩)) := by
      show ∀ n, (h : n < P.length) → _
      intro n h
      rw [ho'.cellAt n (by omega), List.getElem?_map, List.getElem?_eq_getElem h]; rfl
    clear ho ho' hh hg
    by_cases hm1 : m < 1
    · have e : m = 0 := by omega
      subst e
      rw [hm]
      have hr : Hid (ReadCode x [] false) := read_no_end (.inl (by rw [hPe.out]; omega))
      go_wp2_with fail
      go_ret2
      exact ⟨[], _, false, rfl, hr.out, ownsO_empty _ _ hz1, hb1.alloc hz1 _⟩
    · have g2 : ¬ (m : Int) < 1 := by omega
      have hml : m < P.length := by omega
      have hwm : IntKind.i64.wrap (m : Int) = (m : Int) := by simp [IntKind.wrap, IntKind.bits, IntKind.signed]; omega
      have cl := hc.out m hml
      have hlast : Hid (P.getLastD [] = P[m]) := by
        show _ = _
        rw [List.getLastD_eq_getLast?, List.getLast?_eq_getElem?, hm]
        simp only [Nat.add_sub_cancel]
        rw [List.getElem?_eq_getElem hml]; rfl
      rw [hm]
      by_cases hlz : P[m] = []
      · rw [hlz] at cl
        go_wp2_with fail
        have hx0 : Hid ((cutsAt 10 x).getLastD [] = []) := by show _ = _; rw [hPe.out, hlast.out, hlz]
        have hB1 : Below w.heap.size w (w1.alloc (.cells #[] 43)) := hb1.alloc hz1 _
        have ho0 : OwnsO (w1.alloc (.cells #[] 43)) w1.heap.size (.slice (some ⟨w1.heap.size, 0, none⟩) 0 0) [] := ownsO_empty _ _ (Nat.le_refl _)
        clear cl hlz hlast
        obtain ⟨inf, i1, i2, i3, i4⟩ := infoO
        go_loopw [6, 7] (fun v i wr => ∃ (k : Nat) (O : List OpV), k ≤ m ∧ i = .int .i64 k ∧ LinesTo x k O ∧ OwnsO wr w1.heap.size v O ∧ Below w1.heap.size w1 wr) (fun _ i _ => m - (intOf i).toNat)
        case atStart => exact ⟨0, [], Nat.zero_le _, rfl, LinesTo.zero x, ho0, (Below.refl _ _).alloc (Nat.le_refl _) _⟩
        case round =>
          clear ho0 hB1
          obtain ⟨k, O, hk, rfl, hL, hO, hB⟩ := hrel
          have hzr := hB.size
          have hOl := hL.1
          by_cases hlt : k < m
          · have g3 : (k : Int) < (m : Int) := by omega
            have hkp : k < P.length := by omega
            have g4 : (k : Int) < (m : Int) + 1 := by omega
            have ck : wr.cell? ⟨g, k, none⟩ = some (.string ⟨P[k].toArray⟩) := (hB.cell (p := ⟨g, k, none⟩) hgb.2).trans (hc.out k hkp)
            have hpl : P[k].length ≤ 1048576 := by have := hcl.2 _ (List.getElem_mem hkp); omega
            have hPk : Hid ((cutsAt 10 x)[k]? = some P[k]) := by show _ = _; rw [hPe.out, List.getElem?_eq_getElem hkp]
            have hPl : Hid (k + 1 < (cutsAt 10 x).length) := by show _ < _; rw [hPe.out]; omega
            have hL' : Hid (LinesTo x k O) := hL
            generalize P[k] = q at *
            clear hL
            go_wp2_with fail
            refine (specOpRead_any q _ hpl).mono ?_
            rintro e w2 ⟨k', r, s, t, a, b, ok, rfl, hR, hb2⟩
            have hz2 := hb2.size
            have hB2 : Below w1.heap.size w1 w2 := hB.trans (hb2.mono hzr)
            have hO2 := OwnsO.below hO hb2
            rcases hR with ⟨rfl, hok, hqe⟩ | ⟨rfl, ⟨rfl, rfl, rfl, rfl, rfl, rfl⟩, hno⟩
            · have hL2 : Hid (LinesTo x (k + 1) (O ++ [⟨k', r, s, t, a, b⟩])) := hL'.out.next (o := ⟨k', r, s, t, a, b⟩) hok (by rw [hPk.out, hqe]; rfl)
              clear hqe hL' hPk hPl hO
              have hOb : O.length ≤ 1048576 := by omega
              clear hOl
              go_wp2_with (refine wpList_append_own _ rfl (.tmp 46) (.tmp 48) 23 rfl w1.heap.size 43 inf (.agg #[.int .i64 0, .int .i64 0, .int .i64 0, .int .i64 0, .int .i64 0, .int .i64 0]) 6 48 Tryz.underlying23 i1 i2 i3 i4 rfl (by decide) _ _ _ rfl (World.ownsRow.alloc (World.ownsRow.alloc hO2 _) _) ⟨w2.heap.size + 1, 0, none⟩ 1 1 (OpV.cells ⟨k', r, s, t, a, b⟩) rfl rfl (by intro q u hq; rcases (by have := (List.getElem?_eq_some_iff.1 hq).1; simp [OpV.cells] at this; omega : q = 0 ∨ q = 1 ∨ q = 2 ∨ q = 3 ∨ q = 4 ∨ q = 5) with rfl | rfl | rfl | rfl | rfl | rfl <;> (simp [OpV.cells] at hq; subst hq; simp [Addr.add, go_sem])) (by simp [OpV.cells, Value.oneCell']) (by unfold maxLen; omega) (by omega) (by simp <;> omega) ?_; intro x0 w4 ho0 hg0 _)
              have hB4 : Below w1.heap.size w1 w4 := ((hB2.alloc (by omega) _).alloc (by simp; omega) _).grown hg0 (by simp; omega) (by intro k hk; have := (World.ownsRow.lt hO2 k hk).1; omega)
              go_roundw
              case rel => exact ⟨k + 1, _, by omega, by go_num, hL2.out, by unfold OwnsO; rw [cellsO_snoc]; simpa using ho0, hB4⟩
              case measure => simp [intOf]; omega
            · have hr : Hid (ReadCode x [] false) := read_no_line hPl.out hPk.out hno
              clear hno hL' hPk hPl
              go_wp2_with fail
              all_goals
                go_ret2
                exact ⟨[], _, false, rfl, hr.out, (by simpa using ownsO_empty (w2.alloc (.cells #[.int .i64 0, .int .i64 0, .int .i64 0, .int .i64 0, .int .i64 0, .int .i64 0] 43)) w.heap.size (by simp; omega)), ((hb1.trans (hB2.mono hz1)).alloc (by omega) _).alloc (by simp; omega) _⟩
          · have e : k = m := by omega
            subst e
            have hall := read_all (O := O) (by rw [hOl]; exact hL) (by rw [hPe.out, hOl]; exact hm) hx0.out
            obtain ⟨ao, cp, rfl, hC, _⟩ := hO.code
            have hOs : O.length ≤ 1048576 := by omega
            clear hOl
            replace hm : Hid (P.length = k + 1) := hm
            go_wp2_with fail
            refine (specCodeOk_any O ao cp _ hOs hC).mono ?_
            rintro e w2 ⟨rfl, hb2⟩
            have hB2 : Below w.heap.size w w2 := hb1.trans ((hB.trans (hb2.mono hzr)).mono hz1)
            have hz2 := hb2.size
            have hO2 := OwnsO.below hO hb2
            cases hcb : codeB O with
            | true =>
              have hr : Hid (ReadCode x O true) := hall.1 hcb
              clear hall
              go_wp2_with fail
              go_ret2
              exact ⟨O, _, true, rfl, hr.out, OwnsO.mono hO2 (by omega), hB2⟩
            | false =>
              have hr : Hid (ReadCode x [] false) := hall.2 hcb
              clear hall
              go_wp2_with fail
              go_ret2
              exact ⟨[], _, false, rfl, hr.out, ownsO_empty _ _ (by omega), hB2.alloc (by omega) _⟩
      · have hbl : (P[m] == []) = false := by rw [beq_eq_false_iff_ne]; exact hlz
        have hr : Hid (ReadCode x [] false) := read_no_end (.inr (by rw [hPe.out, hlast.out]; exact hlz))
        generalize P[m] = q at *
        go_wp2_with fail
        all_goals
          go_ret2
          exact ⟨[], _, false, rfl, hr.out, ownsO_empty _ _ hz1, hb1.alloc hz1 _⟩
end Go.Proofs.YtekmjgkjpdhedaaGreatDoor
