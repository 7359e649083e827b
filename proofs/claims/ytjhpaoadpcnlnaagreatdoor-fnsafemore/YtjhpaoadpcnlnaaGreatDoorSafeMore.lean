/-
  For every two codes of at most 2^20 bytes: of the steps that are drawn, impl.CodeSafe answers as the specification does, and, where they are safe, they are so with one more at the end, and with another one at a place, but the last, to which nobody comes. Longer codes are let by. No condition but that the tables and errors of strconv are as their initialisers lay them.
-/
import Derived.Test.YtjhpaoadpcnlnaaGreatDoorZa19
import Derived.Test.YtjhpaoadpcnlnaaGreatDoorZa27
import Derived.Test.YtjhpaoadpcnlnaaGreatDoorZa23
import Derived.Test.YtjhpaoadpcnlnaaGreatDoorZa25
import Derived.Test.YtjhpaoadpcnlnaaGreatDoorZa29
import Derived.Test.YtjhpaoadpcnlnaaGreatDoorZa26
import Derived.Test.YtjhpaoadpcnlnaaGreatDoorFcFnSafeMore
namespace Go.Proofs.YtjhpaoadpcnlnaaGreatDoor
open Go.ChangeShapes Go.WideShapes Go.ChangeAt Go.RowKit Go.Joins
namespace SafeMore
theorem wpList_append_g {P : Program} (w : World) {ops : Array Oper} {rest : List Oper} {o : Oper} {a : Act} {Q : Exit → Act → World → Prop} (hwant : Region.wanted o (yielded ops a.tmps) = true) (s x : Operand) (t : TypeId)
    (ho : o.op = .call { callee := .builtin .append, args := #[s, x], argTypes := #[t, t] })
    (base : Nat) (e : TypeId) (i : TypeInfo) (z : Value) (size bytes : Nat) (ht : P.underlying t = some (.slice e)) (hi : P.info? e = some i) (hz : i.zero = some z)
    (hsize : i.size = size) (hby : i.bytes = bytes) (hzs : z.cells.size = size) (hsz : 0 < size)
    (v : Value) (n : Nat) (xs : List Value) (hs : a.eval s = v) (hown : w.ownsRow base e size v n xs)
    (ad : Addr) (m c : Nat) (news : List Value) (hx : a.eval x = .slice (some ad) m c) (hl : news.length = m * size) (hnews : ∀ j u, news[j]? = some u → w.cell? (ad.add j) = some u) (h1 : ∀ u ∈ news, u.oneCell' = true)
    (h63 : n + m ≤ maxLen) (hbytes : ((n + m) + (n + m) / 4 + 192) * bytes ≤ 281474976710656) (hbase : base ≤ w.heap.size)
    (h : ∀ v' w', w'.ownsRow base e size v' (n + m) (xs ++ news) → w.grownBy w' v.ownBlock → (v' = .slice none 0 0 ↔ v = .slice none 0 0 ∧ m = 0) → wpList P ops Q rest (a.put o.dst v') w') : wpList P ops Q (o :: rest) a w := by
  show (if Region.wanted o (yielded ops a.tmps) then o.wp P a w (wpList P ops Q rest) Q ∨ (o.asks P a w ∧ LetsOut Q) else wpList P ops Q rest (a.put o.dst undef) w)
  rw [if_pos hwant]
  exact .inl (wp_append_own_wide w s x t ho base e i z size bytes ht hi hz hsize hby hzs hsz v n xs hs hown ad m c news hx hl hnews h1 h63 hbytes hbase h)
theorem implCodeSafe_len (C : List OpV) (ao : Option Addr) (n cap : Nat) (w : World) (hn : C.length = n) (hl : C.length ≤ 1048576) (h : CodeAt w ao C) :
    Calls Tryz.prog 43 #[.slice ao n cap] w fun e w' => ∃ b, e = .returned (.bool b) ∧ SafeOf C b ∧ Below w.heap.size w w' := by
  subst hn; exact implCodeSafe_any C ao cap w hl h
set_option maxRecDepth 20000 in
set_option maxHeartbeats 8000000 in
theorem walk (a : Option Addr) (len cap : Nat) (a2 : Option Addr) (len2 cap2 : Nat) (w : World) (h : Code0 w a len cap) (_h2 : Code0 w a2 len2 cap2) :
    Calls Tryz.prog 13 #[.slice a len cap, .slice a2 len2 cap2] w fun e w' => e = .returned (.bool true) ∧ Below w.heap.size w w' := by
  by_cases hlen : len ≤ 1048576
  case neg =>
    have g0 : (1048576 : Int) < (len : Int) := by omega
    go_enter Tryz.func13, Tryz.ntmps13
    go_wp2_with fail
    go_ret
    exact ⟨rfl, Below.refl _ _⟩
  by_cases hlen2 : len2 ≤ 1048576
  · have g0 : ¬ (1048576 : Int) < (len : Int) := by omega
    have g9 : ¬ (1048576 : Int) < (len2 : Int) := by omega
    obtain ⟨inf, i1, i2, i3, i4⟩ := infoO
    go_enter Tryz.func13, Tryz.ntmps13
    go_wp2_with fail
    refine (drawSafe_any a len cap _ h).mono ?_
    rintro e w1 ⟨C, v, rfl, hC17, hO1, hB1⟩
    have hz1 := hB1.size
    obtain ⟨ao, cp, rfl, hC1, hg⟩ := hO1.code
    have hl : C.length ≤ 1048576 := by omega
    go_wp2_with fail
    refine (implCodeSafe_any C ao cp _ hl hC1).mono ?_
    rintro e w2 ⟨sb, rfl, hS2, hb2⟩
    have hz2 := hb2.size
    have hB2 : Below w.heap.size w w2 := hB1.trans (hb2.mono (by omega))
    have hC2 := hC1.below hb2
    have hO2 := OwnsO.below hO1 hb2
    clear hb2 hB1 hC1 hO1
    go_wp2_with fail
    refine (specCodeSafe_any C ao cp _ hl hC2).mono ?_
    rintro e w3 ⟨sb3, rfl, hS3, hb3⟩
    obtain rfl := safeOf_one hS2 hS3
    have hz3 := hb3.size
    have hB3 : Below w.heap.size w w3 := hB2.trans (hb3.mono (by omega))
    have hC3 := hC2.below hb3
    have hO3 := OwnsO.below hO2 hb3
    clear hb3 hB2 hC2 hO2 hS3
    cases sb with
    | false =>
      go_wp2_with fail
      refine (specCodeSafe_any C ao cp _ hl hC3).mono ?_
      rintro e w4 ⟨sb4, rfl, hS4, hb4⟩
      obtain rfl := safeOf_one hS2 hS4
      clear hS2 hS4
      go_wp2_with fail
      go_ret
      exact ⟨rfl, hB3.trans (hb4.mono (by omega))⟩
    | true =>
      have hcb := safeOf_ok hS2
      have hSC : Hid (SafeOf C true) := hS2
      have hC0 : 0 < C.length := (codeB_well hcb).1.1
      have hC0' : (0 : Int) < (C.length : Int) := by omega
      replace hcb : Hid (codeB C = true) := hcb
      obtain ⟨g, cp', hv, hg1, hg2⟩ := hO3.blk hC0
      injection hv with hv1 _ hv3
      subst hv1
      subst hv3
      clear hS2 hg hC3
      have hmo : (len2 : Int) % 4 = ((len2 % 4 : Nat) : Int) := by simp
      have hmt : (len2 : Int).tmod 4 = ((len2 % 4 : Nat) : Int) := by rw [Int.tmod_eq_emod_of_nonneg (by omega)]; exact hmo
      have hml : len2 % 4 < 4 := Nat.mod_lt _ (by decide)
      generalize len2 % 4 = m at *
      by_cases h16 : C.length < 16
      case neg =>
        have g16 : ¬ (C.length : Int) < 16 := by omega
        go_wp2_with fail
        have hC3 : CodeAt w3 (some ⟨g, 0, none⟩) C := OwnsO.at_ hO3
        refine (implCodeReach_any C _ cp _ hl hC3).mono ?_
        rintro e w7 ⟨v7, L, rfl, hR7, hO7, hb7⟩
        have hz7 := hb7.size
        have hB7 : Below w.heap.size w w7 := hB3.trans (hb7.mono (by omega))
        have hQ7 := OwnsO.below hO3 hb7
        have hI7 := Owns.ints hO7
        have hLl : L.length ≤ 1048576 := by have := reachOf_len hR7; omega
        have hmore : Hid (∀ k, k < C.length → hasI L (k : Int) = false → SafeOf (C.set k ⟨2, 1, (m : Int), 0, 0, 0⟩) true) := by
          show ∀ k, k < C.length → hasI L (k : Int) = false → SafeOf (C.set k ⟨2, 1, (m : Int), 0, 0, 0⟩) true
          intro k hk hno
          obtain ⟨hcb', V, hV, _⟩ := safeOf_full hSC.out
          rcases hR7 with ⟨_, R, hR, hLR⟩ | ⟨h, _⟩
          · rw [hLR, reach_has hcb' hV hR k hk, decide_eq_false_iff_not] at hno
            exact safe_set hSC.out hV (by omega) (opB_move (m : Int) (by omega) (by omega)) rfl
          · rw [hcb'] at h; cases h
        clear hb7 hC3 hO7 hR7
        go_wp2_with fail
        go_loopw [8] (fun i wr => ∃ k : Nat, k ≤ C.length ∧ i = .int .i64 k ∧ Below w7.heap.size w7 wr) (fun i _ => C.length - (intOf i).toNat)
        case atStart => exact ⟨0, Nat.zero_le _, rfl, Below.refl _ _⟩
        case round =>
          obtain ⟨k, hk, rfl, hBr⟩ := hrel
          have hzr := hBr.size
          by_cases hlt : k < C.length
          · have g1 : (k : Int) < (C.length : Int) := by omega
            have hOr := OwnsO.below hQ7 hBr
            have hIr := hI7.below hBr
            have hBrw : Below w.heap.size w wr := hB7.trans (hBr.mono (by omega))
            have hgr : g < wr.heap.size := by omega
            have hmk := hmore.out k hlt
            have hrd8 := OwnsO.read (World.ownsRow.alloc hOr (.cells #[] 26))
            go_wp2_with (refine wpList_append_own _ rfl (.tmp 58) (.tmp 59) 34 rfl (wr.heap.size) 26 inf (.agg #[.int .i64 0, .int .i64 0, .int .i64 0, .int .i64 0, .int .i64 0, .int .i64 0]) 6 48 Tryz.underlying34 i1 i2 i3 i4 rfl (by decide) _ 0 [] rfl (ownsO_empty' (wr) (wr.heap.size) rfl) ⟨g, 0, none⟩ C.length cp (cellsO C) rfl (cellsO_len C) hrd8 (cellsO_one C) (by unfold maxLen; omega) (by omega) (by simp <;> omega) ?_; intro x0 w8 ho80 hg80 _; show Hid _)
            have ho8 : OwnsO w8 (wr.heap.size) x0 C := by simpa [OwnsO] using ho80
            obtain ⟨g8, cap8, rfl, hg81, hg82⟩ := ho8.blk hC0
            have hz80 := hg80.size
            simp at hz80
            delta Hid
            go_wp2_with fail
            refine .inl (wpList_nil ?_)
            go_step
            have hb8 : Below wr.heap.size wr w8 := ((Below.refl _ _).alloc (Nat.le_refl _) _).grown hg80 (by simp) (by intro k e; cases e; exact Nat.le_refl _)
            obtain ⟨⟨s0, s1, s2, s3, s4, s5⟩, fz⟩ := ho8.stepAt k hlt
            have f0 := fz (k * 6)
            have f1 := fz (k * 6 + 1)
            have f2 := fz (k * 6 + 2)
            have f3 := fz (k * 6 + 3)
            have f4 := fz (k * 6 + 4)
            have f5 := fz (k * 6 + 5)
            have hX : Hid (OwnsO ((((((w8.setCell ⟨g8, k * 6, none⟩ (.int .i64 2)).setCell ⟨g8, k * 6 + 1, none⟩ (.int .i64 1)).setCell ⟨g8, k * 6 + 2, none⟩ (.int .i64 (m : Int))).setCell ⟨g8, k * 6 + 3, none⟩ (.int .i64 0)).setCell ⟨g8, k * 6 + 4, none⟩ (.int .i64 0)).setCell ⟨g8, k * 6 + 5, none⟩ (.int .i64 0)) wr.heap.size (.slice (some ⟨g8, 0, none⟩) C.length cap8) (C.set k ⟨2, 1, (m : Int), 0, 0, 0⟩)) := ho8.put k hlt ⟨2, 1, (m : Int), 0, 0, 0⟩
            have hbt := but6 w8 g8 (k * 6) (.int .i64 2) (.int .i64 1) (.int .i64 (m : Int)) (.int .i64 0) (.int .i64 0) (.int .i64 0)
            have hb9 : Below wr.heap.size wr ((((((w8.setCell ⟨g8, k * 6, none⟩ (.int .i64 2)).setCell ⟨g8, k * 6 + 1, none⟩ (.int .i64 1)).setCell ⟨g8, k * 6 + 2, none⟩ (.int .i64 (m : Int))).setCell ⟨g8, k * 6 + 3, none⟩ (.int .i64 0)).setCell ⟨g8, k * 6 + 4, none⟩ (.int .i64 0)).setCell ⟨g8, k * 6 + 5, none⟩ (.int .i64 0)) := hb8.trans (hbt.below (B := wr.heap.size) (by omega) (by omega))
            have hz9 := hbt.size
            generalize C[k] = ok at *
            clear fz hbt ho8 hg80 ho80 hrd8 hOr
            iterate 30 go_step
            generalize ((((((w8.setCell ⟨g8, k * 6, none⟩ (.int .i64 2)).setCell ⟨g8, k * 6 + 1, none⟩ (.int .i64 1)).setCell ⟨g8, k * 6 + 2, none⟩ (.int .i64 (m : Int))).setCell ⟨g8, k * 6 + 3, none⟩ (.int .i64 0)).setCell ⟨g8, k * 6 + 4, none⟩ (.int .i64 0)).setCell ⟨g8, k * 6 + 5, none⟩ (.int .i64 0)) = w9 at *
            clear s0 s1 s2 s3 s4 s5 f0 f1 f2 f3 f4 f5
            have hI9 := hIr.below (hb9.mono (by omega))
            have hB9 : Below w7.heap.size w7 w9 := hBr.trans (hb9.mono (by omega))
            cases hh : hasI L (k : Int) with
            | true =>
              go_wp2_with fail
              refine (lvAmong_any w7.heap.size L _ _ _ hLl hI9).mono ?_
              rintro e w10 ⟨rfl, rfl⟩
              rw [hh]
              go_wp2_with fail
              go_roundw
              case rel => exact ⟨k + 1, by omega, by go_num, hB9⟩
              case measure => simp [intOf]; omega
            | false =>
              have hsf : Hid (SafeOf (C.set k ⟨2, 1, (m : Int), 0, 0, 0⟩) true) := hmk hh
              by_cases hlast : k + 1 < C.length
              · have g3 : (k : Int) + 1 < (C.length : Int) := by omega
                clear hmk
                go_wp2_with fail
                refine (lvAmong_any w7.heap.size L _ _ _ hLl hI9).mono ?_
                rintro e w10 ⟨rfl, rfl⟩
                rw [hh]
                go_wp2_with fail
                refine (implCodeSafe_len _ _ C.length cap8 _ (by rw [List.length_set]) (by rw [List.length_set]; exact hl) (OwnsO.at_ hX.out)).mono ?_
                rintro e w11 ⟨b11, rfl, hS11, hb11⟩
                obtain rfl := safeOf_one hsf.out hS11
                have hB11 : Below w7.heap.size w7 w11 := hB9.trans (hb11.mono (by omega))
                clear hS11 hb11 hX hI9
                go_wp2_with fail
                go_roundw
                case rel => exact ⟨k + 1, by omega, by go_num, hB11⟩
                case measure => simp [intOf]; omega
              · have g3 : ¬ (k : Int) + 1 < (C.length : Int) := by omega
                clear hmk
                go_wp2_with fail
                refine (lvAmong_any w7.heap.size L _ _ _ hLl hI9).mono ?_
                rintro e w10 ⟨rfl, rfl⟩
                rw [hh]
                go_wp2_with fail
                go_roundw
                case rel => exact ⟨k + 1, by omega, by go_num, hB9⟩
                case measure => simp [intOf]; omega
          · have e : k = C.length := by omega
            subst e
            go_wp2_with fail
            go_ret
            exact ⟨rfl, hB7.trans (hBr.mono (by omega))⟩
      have g16 : (C.length : Int) < 16 := by omega
      have hrd4 := OwnsO.read (World.ownsRow.alloc hO3 (.cells #[] 26))
      go_wp2_with (refine wpList_append_g _ (by first | rfl | simp [Region.wanted, yielded, go_sem]) (.tmp 38) (.tmp 39) 34 rfl w3.heap.size 26 inf (.agg #[.int .i64 0, .int .i64 0, .int .i64 0, .int .i64 0, .int .i64 0, .int .i64 0]) 6 48 Tryz.underlying34 i1 i2 i3 i4 rfl (by decide) _ 0 [] rfl (ownsO_empty' w3 w3.heap.size rfl) ⟨g, 0, none⟩ C.length cp (cellsO C) rfl (cellsO_len C) hrd4 (cellsO_one C) (by unfold maxLen; omega) (by omega) (by simp <;> omega) ?_; intro x0 w4 ho40 hg40 _; show Hid _)
      have ho4 : OwnsO w4 w3.heap.size x0 C := by simpa [OwnsO] using ho40
      obtain ⟨g4, cap4, rfl, hg41, hg42⟩ := ho4.blk hC0
      have hz4 := hg40.size
      simp at hz4
      have hB4 : Below w.heap.size w w4 := (hB3.alloc (by omega) _).grown hg40 (by simp; omega) (by intro k e; cases e; show w.heap.size ≤ w3.heap.size; omega)
      have hO4 : OwnsO w4 w.heap.size (.slice (some ⟨g, 0, none⟩) C.length cp) C := OwnsO.keep (World.ownsRow.alloc hO3 (.cells #[] 26)) hg40 (fun k e => by cases e; intro e2; have : g = w3.heap.size := Option.some.inj e2; omega)
      clear hg40 ho40 hrd4 hO3
      delta Hid
      go_wp2_with fail
      refine .inl ?_
      go_wp2_with (refine wpList_append_g _ (by first | rfl | simp [Region.wanted, yielded, go_sem]) (.tmp 40) (.tmp 45) 34 rfl w3.heap.size 26 inf (.agg #[.int .i64 0, .int .i64 0, .int .i64 0, .int .i64 0, .int .i64 0, .int .i64 0]) 6 48 Tryz.underlying34 i1 i2 i3 i4 rfl (by decide) _ _ _ rfl (World.ownsRow.alloc ho4 _) ⟨w4.heap.size, 0, none⟩ 1 1 (OpV.cells ⟨14, (m : Int), 0, 0, 0, 0⟩) rfl rfl (by intro q u hq; rcases (by have := (List.getElem?_eq_some_iff.1 hq).1; simp [OpV.cells] at this; omega : q = 0 ∨ q = 1 ∨ q = 2 ∨ q = 3 ∨ q = 4 ∨ q = 5) with rfl | rfl | rfl | rfl | rfl | rfl <;> (simp [OpV.cells] at hq; subst hq; simp [Addr.add, go_sem])) (by simp [OpV.cells, Value.oneCell']) (by unfold maxLen; omega) (by omega) (by simp <;> omega) ?_; intro x1 w5 ho50 hg50 _; show Hid _)
      have ho5 : OwnsO w5 w3.heap.size x1 (C ++ [⟨14, (m : Int), 0, 0, 0, 0⟩]) := by unfold OwnsO; rw [cellsO_snoc]; simpa using ho50
      have hz5 := hg50.size
      simp at hz5
      have hB5 : Below w.heap.size w w5 := (hB4.alloc (by omega) _).grown hg50 (by simp; omega) (by intro k e; cases e; show w.heap.size ≤ g4; omega)
      have hO5 : OwnsO w5 w.heap.size (.slice (some ⟨g, 0, none⟩) C.length cp) C := OwnsO.keep (World.ownsRow.alloc hO4 (.cells #[.int .i64 14, .int .i64 (m : Int), .int .i64 0, .int .i64 0, .int .i64 0, .int .i64 0] 26)) hg50 (fun k e => by cases e; intro e2; have : g = g4 := Option.some.inj e2; omega)
      have hSA : Hid (SafeOf (C ++ [⟨14, (m : Int), 0, 0, 0, 0⟩]) true) := safe_app hSC.out h16 (opB_end (m : Int) (by omega) (by omega)) rfl
      obtain ⟨ao5, cp5, rfl, hc5, _⟩ := OwnsO.code ho5
      clear hg50 ho50 hO4 ho4 ho5
      delta Hid
      refine .inl ?_
      have hcall := implCodeSafe_any (C ++ [⟨14, (m : Int), 0, 0, 0, 0⟩]) ao5 cp5 w5 (by rw [List.length_append, List.length_singleton]; omega) hc5
      refine hcall.mono ?_
      rintro e w6 ⟨b6, rfl, hS6, hb6⟩
      obtain rfl := safeOf_one hSA.out hS6
      have hz6 := hb6.size
      have hB6 : Below w.heap.size w w6 := hB5.trans (hb6.mono (by omega))
      have hO6 := OwnsO.below hO5 hb6
      clear hb6 hS6 hSA hc5 hO5 hB5 hcall
      generalize (C ++ [(⟨14, (m : Int), 0, 0, 0, 0⟩ : OpV)]).length = nx at *
      go_wp2_with fail
      have hC3 : CodeAt w6 (some ⟨g, 0, none⟩) C := OwnsO.at_ hO6
      refine (implCodeReach_any C _ cp _ hl hC3).mono ?_
      rintro e w7 ⟨v7, L, rfl, hR7, hO7, hb7⟩
      have hz7 := hb7.size
      have hB7 : Below w.heap.size w w7 := hB6.trans (hb7.mono (by omega))
      have hQ7 := OwnsO.below hO6 hb7
      have hI7 := Owns.ints hO7
      have hLl : L.length ≤ 1048576 := by have := reachOf_len hR7; omega
      have hmore : Hid (∀ k, k < C.length → hasI L (k : Int) = false → SafeOf (C.set k ⟨2, 1, (m : Int), 0, 0, 0⟩) true) := by
        show ∀ k, k < C.length → hasI L (k : Int) = false → SafeOf (C.set k ⟨2, 1, (m : Int), 0, 0, 0⟩) true
        intro k hk hno
        obtain ⟨hcb', V, hV, _⟩ := safeOf_full hSC.out
        rcases hR7 with ⟨_, R, hR, hLR⟩ | ⟨h, _⟩
        · rw [hLR, reach_has hcb' hV hR k hk, decide_eq_false_iff_not] at hno
          exact safe_set hSC.out hV (by omega) (opB_move (m : Int) (by omega) (by omega)) rfl
        · rw [hcb'] at h; cases h
      clear hb7 hC3 hO7 hR7
      go_wp2_with fail
      go_loopw [8] (fun i wr => ∃ k : Nat, k ≤ C.length ∧ i = .int .i64 k ∧ Below w7.heap.size w7 wr) (fun i _ => C.length - (intOf i).toNat)
      case atStart => exact ⟨0, Nat.zero_le _, rfl, Below.refl _ _⟩
      case round =>
        obtain ⟨k, hk, rfl, hBr⟩ := hrel
        have hzr := hBr.size
        by_cases hlt : k < C.length
        · have g1 : (k : Int) < (C.length : Int) := by omega
          have hOr := OwnsO.below hQ7 hBr
          have hIr := hI7.below hBr
          have hBrw : Below w.heap.size w wr := hB7.trans (hBr.mono (by omega))
          have hgr : g < wr.heap.size := by omega
          have hmk := hmore.out k hlt
          have hrd8 := OwnsO.read (World.ownsRow.alloc hOr (.cells #[] 26))
          go_wp2_with (refine wpList_append_own _ rfl (.tmp 58) (.tmp 59) 34 rfl (wr.heap.size) 26 inf (.agg #[.int .i64 0, .int .i64 0, .int .i64 0, .int .i64 0, .int .i64 0, .int .i64 0]) 6 48 Tryz.underlying34 i1 i2 i3 i4 rfl (by decide) _ 0 [] rfl (ownsO_empty' (wr) (wr.heap.size) rfl) ⟨g, 0, none⟩ C.length cp (cellsO C) rfl (cellsO_len C) hrd8 (cellsO_one C) (by unfold maxLen; omega) (by omega) (by simp <;> omega) ?_; intro x0 w8 ho80 hg80 _; show Hid _)
          have ho8 : OwnsO w8 (wr.heap.size) x0 C := by simpa [OwnsO] using ho80
          obtain ⟨g8, cap8, rfl, hg81, hg82⟩ := ho8.blk hC0
          have hz80 := hg80.size
          simp at hz80
          delta Hid
          go_wp2_with fail
          refine .inl (wpList_nil ?_)
          go_step
          have hb8 : Below wr.heap.size wr w8 := ((Below.refl _ _).alloc (Nat.le_refl _) _).grown hg80 (by simp) (by intro k e; cases e; exact Nat.le_refl _)
          obtain ⟨⟨s0, s1, s2, s3, s4, s5⟩, fz⟩ := ho8.stepAt k hlt
          have f0 := fz (k * 6)
          have f1 := fz (k * 6 + 1)
          have f2 := fz (k * 6 + 2)
          have f3 := fz (k * 6 + 3)
          have f4 := fz (k * 6 + 4)
          have f5 := fz (k * 6 + 5)
          have hX : Hid (OwnsO ((((((w8.setCell ⟨g8, k * 6, none⟩ (.int .i64 2)).setCell ⟨g8, k * 6 + 1, none⟩ (.int .i64 1)).setCell ⟨g8, k * 6 + 2, none⟩ (.int .i64 (m : Int))).setCell ⟨g8, k * 6 + 3, none⟩ (.int .i64 0)).setCell ⟨g8, k * 6 + 4, none⟩ (.int .i64 0)).setCell ⟨g8, k * 6 + 5, none⟩ (.int .i64 0)) wr.heap.size (.slice (some ⟨g8, 0, none⟩) C.length cap8) (C.set k ⟨2, 1, (m : Int), 0, 0, 0⟩)) := ho8.put k hlt ⟨2, 1, (m : Int), 0, 0, 0⟩
          have hbt := but6 w8 g8 (k * 6) (.int .i64 2) (.int .i64 1) (.int .i64 (m : Int)) (.int .i64 0) (.int .i64 0) (.int .i64 0)
          have hb9 : Below wr.heap.size wr ((((((w8.setCell ⟨g8, k * 6, none⟩ (.int .i64 2)).setCell ⟨g8, k * 6 + 1, none⟩ (.int .i64 1)).setCell ⟨g8, k * 6 + 2, none⟩ (.int .i64 (m : Int))).setCell ⟨g8, k * 6 + 3, none⟩ (.int .i64 0)).setCell ⟨g8, k * 6 + 4, none⟩ (.int .i64 0)).setCell ⟨g8, k * 6 + 5, none⟩ (.int .i64 0)) := hb8.trans (hbt.below (B := wr.heap.size) (by omega) (by omega))
          have hz9 := hbt.size
          generalize C[k] = ok at *
          clear fz hbt ho8 hg80 ho80 hrd8 hOr
          iterate 30 go_step
          generalize ((((((w8.setCell ⟨g8, k * 6, none⟩ (.int .i64 2)).setCell ⟨g8, k * 6 + 1, none⟩ (.int .i64 1)).setCell ⟨g8, k * 6 + 2, none⟩ (.int .i64 (m : Int))).setCell ⟨g8, k * 6 + 3, none⟩ (.int .i64 0)).setCell ⟨g8, k * 6 + 4, none⟩ (.int .i64 0)).setCell ⟨g8, k * 6 + 5, none⟩ (.int .i64 0)) = w9 at *
          clear s0 s1 s2 s3 s4 s5 f0 f1 f2 f3 f4 f5
          have hI9 := hIr.below (hb9.mono (by omega))
          have hB9 : Below w7.heap.size w7 w9 := hBr.trans (hb9.mono (by omega))
          cases hh : hasI L (k : Int) with
          | true =>
            go_wp2_with fail
            refine (lvAmong_any w7.heap.size L _ _ _ hLl hI9).mono ?_
            rintro e w10 ⟨rfl, rfl⟩
            rw [hh]
            go_wp2_with fail
            go_roundw
            case rel => exact ⟨k + 1, by omega, by go_num, hB9⟩
            case measure => simp [intOf]; omega
          | false =>
            have hsf : Hid (SafeOf (C.set k ⟨2, 1, (m : Int), 0, 0, 0⟩) true) := hmk hh
            by_cases hlast : k + 1 < C.length
            · have g3 : (k : Int) + 1 < (C.length : Int) := by omega
              clear hmk
              go_wp2_with fail
              refine (lvAmong_any w7.heap.size L _ _ _ hLl hI9).mono ?_
              rintro e w10 ⟨rfl, rfl⟩
              rw [hh]
              go_wp2_with fail
              refine (implCodeSafe_len _ _ C.length cap8 _ (by rw [List.length_set]) (by rw [List.length_set]; exact hl) (OwnsO.at_ hX.out)).mono ?_
              rintro e w11 ⟨b11, rfl, hS11, hb11⟩
              obtain rfl := safeOf_one hsf.out hS11
              have hB11 : Below w7.heap.size w7 w11 := hB9.trans (hb11.mono (by omega))
              clear hS11 hb11 hX hI9
              go_wp2_with fail
              go_roundw
              case rel => exact ⟨k + 1, by omega, by go_num, hB11⟩
              case measure => simp [intOf]; omega
            · have g3 : ¬ (k : Int) + 1 < (C.length : Int) := by omega
              clear hmk
              go_wp2_with fail
              refine (lvAmong_any w7.heap.size L _ _ _ hLl hI9).mono ?_
              rintro e w10 ⟨rfl, rfl⟩
              rw [hh]
              go_wp2_with fail
              go_roundw
              case rel => exact ⟨k + 1, by omega, by go_num, hB9⟩
              case measure => simp [intOf]; omega
        · have e : k = C.length := by omega
          subst e
          go_wp2_with fail
          go_ret
          exact ⟨rfl, hB7.trans (hBr.mono (by omega))⟩
  · have g0 : ¬ (1048576 : Int) < (len : Int) := by omega
    have g9 : (1048576 : Int) < (len2 : Int) := by omega
    go_enter Tryz.func13, Tryz.ntmps13
    go_wp2_with fail
    go_ret
    exact ⟨rfl, Below.refl _ _⟩

set_option maxRecDepth 20000 in
theorem contract (H : Type) (enc : TypeId × Value → H) (W : World) (base : Nat) (args : Array Value) (ds gs : List (DataW H)) (before : List MemPlace)
    (hval : ∀ (j : Nat) t v, Tryz.f13.params[j]? = some t → args[j]? = some v → Value.okWide Tryz.prog W .any base t v)
    (hW : DataW.Whole enc Tryz.prog Tryz.f13.params.toList Rows.fnSafeMoreSpec.vars false W args.toList ds gs before) (_hL : laidMetH Tryz.prog Rows.fnSafeMoreRow.laid W) :
    Calls Tryz.prog 13 args W fun e W' => ∃ v, e = .returned v ∧ Rows.fnSafeMoreSpec.post enc Tryz.prog Tryz.f13 false true false false W args v W' := by
  have hW' := hW
  obtain ⟨p, q, hA0, hV, rfl, hfz, hnd⟩ := hW
  have hA : DataW.TrodAll enc Tryz.prog W 0 (fun _ => true) true Tryz.f13.params.toList args.toList ds p := hA0
  rw [Tryz.params13] at hA hval
  obtain ⟨v0, vs0, d0, ds0, p0, q0, hargs, rfl, rfl, h0, r0⟩ := trodAll_cons hA
  obtain ⟨v1, vs1, d1, ds1, p1, q1, rfl, rfl, rfl, h1, r1⟩ := trodAll_cons r0
  obtain ⟨rfl, rfl, rfl⟩ := trodAll_nil r1
  obtain rfl : args = #[v0, v1] := by cases args; simp_all
  obtain ⟨rfl, rfl⟩ := trodVars_none hV
  obtain ⟨a0, len0, cap0, rfl⟩ := okWide_slice Tryz.underlying22 (hval 0 22 v0 rfl rfl)
  have k0 := h0
  have lt0 : ∀ x ∈ p0, x.block < W.heap.size := by obtain ⟨m, hm⟩ := k0; exact DataW.trod_lt m _ _ _ hm
  have w0 : Code0 W a0 len0 cap0 := by
    obtain ⟨fuel, hf⟩ := h0
    rcases open_ints Tryz.underlying22 Tryz.underlying5 (by kernel_rfl) hf with ⟨hcs, _⟩ | ⟨x, l, c, zs, hcs, _, hl, hm, hz, _, hcell, hwz⟩
    · simp [Value.cells] at hcs
      obtain ⟨rfl, rfl, rfl⟩ := hcs
      exact code_of_row (zs := []) (.inl ⟨rfl, rfl, rfl, rfl⟩)
    · simp [Value.cells] at hcs
      obtain ⟨rfl, rfl, rfl⟩ := hcs
      exact code_of_row (zs := zs) (.inr ⟨_, rfl, hl, hm, by simpa using hz, hcell, hwz⟩)
  obtain ⟨a1, len1, cap1, rfl⟩ := okWide_slice Tryz.underlying22 (hval 1 22 v1 rfl rfl)
  have k1 := h1
  have lt1 : ∀ x ∈ p1, x.block < W.heap.size := by obtain ⟨m, hm⟩ := k1; exact DataW.trod_lt m _ _ _ hm
  have w1 : Code0 W a1 len1 cap1 := by
    obtain ⟨fuel, hf⟩ := h1
    rcases open_ints Tryz.underlying22 Tryz.underlying5 (by kernel_rfl) hf with ⟨hcs, _⟩ | ⟨x, l, c, zs, hcs, _, hl, hm, hz, _, hcell, hwz⟩
    · simp [Value.cells] at hcs
      obtain ⟨rfl, rfl, rfl⟩ := hcs
      exact code_of_row (zs := []) (.inl ⟨rfl, rfl, rfl, rfl⟩)
    · simp [Value.cells] at hcs
      obtain ⟨rfl, rfl, rfl⟩ := hcs
      exact code_of_row (zs := zs) (.inr ⟨_, rfl, hl, hm, by simpa using hz, hcell, hwz⟩)
  clear hA0
  refine (walk a0 len0 cap0 a1 len1 cap1 W w0 w1).mono fun e W' ⟨he, bel⟩ => ?_
  subst he
  exact ⟨_, rfl, _, _, _, [], _, [], hW', trodAll_mk1 (shut_bool Tryz.underlying4 _), (trodAll_cons_mk (Below.trod laidOut (by kernel_rfl) (of_decide_eq_true (by kernel_rfl)) k0 bel lt0) (trodAll_cons_mk (Below.trod laidOut (by kernel_rfl) (of_decide_eq_true (by kernel_rfl)) k1 bel lt1) trodAll_mk0)), rfl, bel.frame _, fun h => by cases h⟩
theorem laid_met (os : Os) : laidMet Tryz.prog Rows.fnSafeMoreRow.laid ((putAll (World.settled Tryz.prog os).heap.size (World.holding Tryz.prog os ⟨errBlocks, #[], []⟩)).forCall (fun _ _ => 0) ⟨#[], #[.slice none 0 0, .slice none 0 0], []⟩).memory :=
  laidMet_of_run' 10 (by kernel_rfl) (by kernel_rfl)
theorem reads (os : Os) {H : Type} (enc : TypeId × Value → H) : ∃ places, DataW.whole enc Tryz.prog ((putAll (World.settled Tryz.prog os).heap.size (World.holding Tryz.prog os ⟨errBlocks, #[], []⟩)).forCall (fun _ _ => 0) ⟨#[], #[.slice none 0 0, .slice none 0 0], []⟩).memory Tryz.f13.params.toList Rows.fnSafeMoreSpec.vars false #[.slice none 0 0, .slice none 0 0].toList 8 = some ([.nil, .nil], [], places) :=
  ⟨[], by kernel_rfl⟩
set_option maxRecDepth 100000 in
theorem lifted (os : Os) (started : os.Started) (H : Type) (enc : TypeId × Value → H) (F : Stop.Interp) :
    ReturnsInHanded {} Tryz.checked os 13 .any ((OpenSpec.ofChange Rows.fnSafeMoreSpec).preRow enc Tryz.prog Tryz.f13 Rows.fnSafeMoreRow.domain false Rows.fnSafeMoreRow.laid) (((OpenSpec.ofChange Rows.fnSafeMoreSpec).at F).post enc Tryz.prog Tryz.f13 false true false false) := by
  obtain ⟨places, hx⟩ := reads os enc
  refine returnsInHanded_of_row (C := Tryz.checked) (s := OpenSpec.ofChange Rows.fnSafeMoreSpec) own started (by kernel_rfl) Tryz.func13
    (witness_row_atRef (enc := enc) (C := Tryz.checked) false (putAll (World.settled Tryz.prog os).heap.size (World.holding Tryz.prog os ⟨errBlocks, #[], []⟩)) #[.slice none 0 0, .slice none 0 0] rfl (by kernel_rfl) (by kernel_rfl) (by kernel_rfl)
      (OpenSpec.preRow_of_cond 8 hx (by kernel_rfl) (fun k hk => by cases hk) (by kernel_rfl) (laid_met os))) ?_
  intro W base args ds gs before hval hW _ _ _ hL _ _
  exact contract H enc W base args ds gs before hval hW hL
set_option maxRecDepth 100000 in
theorem said : Rows.FnSafeMoreSaid :=
  OpenClaim.holds_of_cond 13 Tryz.f13 rfl rfl rfl rfl rfl rfl rfl ⟨rfl, rfl, rfl, rfl, rfl⟩ rfl rfl rfl rfl rfl (by kernel_rfl) Tryz.func13 FcFnSafeMore.closed
    (of_decide_eq_true (by kernel_rfl)) (by unfold Func.isWrapper; first | (rw [if_pos (by decide +kernel)]; kernel_rfl) | (rw [if_neg (by decide +kernel)]; exact ⟨rfl, rfl⟩))
    (fun os started H enc _ F => by rw [OpenClaim.pre_eq_preRow]; exact lifted os started H enc F)
theorem plain (f : FuncId) (fn : Func) (hf : Tryz.pinned.checked.prog.funcNamed Rows.fnSafeMoreRow.func = some f) (hfn : Tryz.pinned.checked.prog.funcs[f]? = some fn) :
    true = Tryz.pinned.checked.prog.looks [] ∧ ∀ (j : Nat) t, fn.params[j]? = some t → Tryz.pinned.checked.prog.wantsStandIn t = false := by
  obtain rfl : f = 13 := Option.some.inj ((show Tryz.prog.funcNamed Rows.fnSafeMoreRow.func = some 13 by kernel_rfl).symm.trans hf) |>.symm
  obtain rfl : fn = Tryz.f13 := (Option.some.inj (Tryz.func13.symm.trans hfn)).symm
  refine ⟨by kernel_rfl, fun j t ht => ?_⟩
  rw [Tryz.params13] at ht
  obtain rfl : t = 22 := by simpa using Array.mem_of_getElem? ht
  exact (show Tryz.prog.wantsStandIn 22 = false by kernel_rfl)
theorem card : Rows.FnSafeMoreCardSaid :=
  Claim7.holds_tied_plain_at .later [] _ _ _ _ said (fun _ h => by cases h) (by kernel_rfl) (fun _ h => by cases h) fnSafeMore_row_tie rfl ⟨rfl, rfl⟩ (by kernel_rfl) rfl plain (by kernel_rfl)
end SafeMore

/-- the given statement -/
theorem safeMore_holds : Rows.FnSafeMoreCardSaid := SafeMore.card
#print axioms safeMore_holds
end Go.Proofs.YtjhpaoadpcnlnaaGreatDoor
