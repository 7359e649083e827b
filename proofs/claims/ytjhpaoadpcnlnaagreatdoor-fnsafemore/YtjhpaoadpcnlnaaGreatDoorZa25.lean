/-
  A number appended to a row of numbers of one's own, over this translation: the row stays in its block, or goes into a new one.
  spec.CodeReach over this translation: the places that are come to, in a row of their own; nothing that was there turns.
  What laws.lvInts, lvAmong, lvBit, lvIn and lvFills answer over this translation.
  Facts of steps, apart from any program, that the laws over drawn steps ask for. No condition.
-/
import Derived.Test.YtjhpaoadpcnlnaaGreatDoorZa15
import Derived.Test.YtjhpaoadpcnlnaaGreatDoorZa24
import Derived.Test.YtjhpaoadpcnlnaaGreatDoorZa23
import Derived.Test.YtjhpaoadpcnlnaaGreatDoorZa17
namespace Go.Proofs.YtjhpaoadpcnlnaaGreatDoor
open Go.ChangeShapes Go.WideShapes Go.ChangeAt Go.RowKit Go.Joins
theorem run_append_where {w : World} {base : Nat} {v : Value} {L : List Int} (ty : TypeId) (ho : Owns w base v L) (a : Addr) (c : Nat) (x : Int) (hx : w.cell? a = some (.int .i64 x)) (hn : L.length ≤ 1048576) (hb : base ≤ w.heap.size) :
    ∃ v' w', (Builtin.append_ #[38, 38] ty #[v, .slice (some a) 1 c]).run Tryz.prog w = .ok v' w' ∧ Owns w' base v' (L ++ [x]) ∧ w.grownBy w' v.ownBlock ∧ (v'.ownBlock = v.ownBlock ∨ v'.ownBlock = some w.heap.size) := by
  obtain ⟨inf, i1, i2, i3, i4⟩ := info_intI
  have hnews : ∀ j u, [Value.int .i64 x][j]? = some u → w.cell? (a.add j) = some u := by
    intro q u hq
    cases q with
    | zero => simp at hq; subst hq; simpa [Addr.add] using hx
    | succ q => simp at hq
  obtain ⟨v', w', hrun, h1, h2, _⟩ := run_append_own (P := Tryz.prog) w base 38 ty 3 inf (.int .i64 0) 1 8 Tryz.underlying38 i1 i2 i3 i4 rfl (by decide) v _ _ ho a 1 c [.int .i64 x] rfl hnews (by simp [Value.oneCell']) (by unfold maxLen; omega) (by omega) hb
  refine ⟨v', w', hrun, by simpa [Owns] using h1, h2, ?_⟩
  rcases ho.2 with ⟨rfl, hl0⟩ | ⟨g, cap, cur, rfl, hg, hh, hlc, hcm, hcs, htk⟩
  · have hr := run_append_nil (P := Tryz.prog) w 38 ty 3 inf (.int .i64 0) Tryz.underlying38 i1 i2 a 1 c [.int .i64 x] (by rw [i3]; rfl) hnews (by decide) (by decide) (by rw [i4]; decide)
    rw [hr] at hrun
    cases hrun
    exact .inr rfl
  · by_cases hroom : L.length + 1 ≤ cap
    · have hr := run_append_room (P := Tryz.prog) w 38 ty 3 inf Tryz.underlying38 i1 g L.length cap cur hh a 1 c [.int .i64 x] (by rw [i3]; rfl) hnews (by simp [Value.oneCell']) hroom (by rw [i3]; simp; omega)
      rw [hr] at hrun
      cases hrun
      exact .inl rfl
    · have hr := run_append_grow (P := Tryz.prog) w 38 ty 3 inf (.int .i64 0) Tryz.underlying38 i1 i2 ⟨g, 0, none⟩ L.length cap _ (by rw [i3]; exact ho.1) (World.ownsRow.cells ho (g := g) rfl) a 1 c [.int .i64 x] (by rw [i3]; rfl) hnews (by omega) (by omega) (growslice_fits (by omega) (by rw [i4]; omega))
      rw [hr] at hrun
      cases hrun
      exact .inr rfl
theorem wpList_append_int (w : World) {ops : Array Oper} {rest : List Oper} {o : Oper} {a : Act} {R : Exit → Act → World → Prop} (hgd : o.guard = none) (s x : Operand)
    (ho : o.op = .call { callee := .builtin .append, args := #[s, x], argTypes := #[38, 38] }) {base : Nat} {v : Value} {L : List Int} (ad : Addr) (c : Nat) (n : Int) (hv : a.eval s = v) (hx : a.eval x = .slice (some ad) 1 c)
    (hq : Owns w base v L) (hc : w.cell? ad = some (.int .i64 n)) (hn : L.length ≤ 1048576) (hb : base ≤ w.heap.size)
    (hK : ∀ v' w', Owns w' base v' (L ++ [n]) → w.grownBy w' v.ownBlock → (v'.ownBlock = v.ownBlock ∨ v'.ownBlock = some w.heap.size) → wpList Tryz.prog ops R rest (a.put o.dst v') w') : wpList Tryz.prog ops R (o :: rest) a w := by
  refine wpList_plain hgd fun K hK' => ?_
  obtain ⟨v', w', hrun, h1, h2, h3⟩ := run_append_where o.type hq ad c n hc hn hb
  unfold Oper.wp
  simp [execOp, ho, resolve, invoke, builtin, hv, hx, hrun, Result.andThen]
  exact hK' _ _ (hK v' w' h1 h2 h3)
end Go.Proofs.YtjhpaoadpcnlnaaGreatDoor
namespace Go.Proofs.YtjhpaoadpcnlnaaGreatDoor
open Go.ChangeShapes Go.WideShapes Go.ChangeAt Go.RowKit Go.Joins
/-- the places of a list, ahead of k, ascending -/
def sortTo (R : List Nat) (k : Nat) : List Nat := (List.range k).filter fun i => R.contains i
theorem sortTo_step (R : List Nat) (k : Nat) : sortTo R (k + 1) = if R.contains k = true then sortTo R k ++ [k] else sortTo R k := by
  unfold sortTo
  rw [List.range_succ, List.filter_append]
  by_cases h : k ∈ R <;> simp [h]
theorem sortTo_len (R : List Nat) (k : Nat) : (sortTo R k).length ≤ k := by
  have := List.length_filter_le (fun i => R.contains i) (List.range k)
  simpa [sortTo] using this
theorem addAll_at (L M : List Nat) (k : Nat) (h : k < M.length) : addAll L (M.take (k + 1)) = addL (addAll L (M.take k)) M[k] := by
  rw [take_step M k h]
  unfold addAll
  rw [List.foldl_append]; rfl
theorem own_ne {w : World} {B : Nat} {v : Value} {L : List Int} (h : Owns w B v L) {b : Nat} (hb : w.heap.size ≤ b) : v.ownBlock ≠ some b := by
  intro e
  have := (World.ownsRow.lt h b e).2
  omega
set_option maxRecDepth 20000 in
set_option maxHeartbeats 8000000 in
theorem specCodeReach_any (C : List OpV) (ao : Option Addr) (cap : Nat) (w : World) (hl : C.length ≤ 1048576) (h : CodeAt w ao C) :
    Calls Tryz.prog 37 #[.slice ao C.length cap] w fun e w' => ∃ v L, e = .returned v ∧ ReachOf C L ∧ Owns w' w.heap.size v L ∧ Below w.heap.size w w' := by
  have hlit : Owns (w.alloc (.cells #[] 3)) w.heap.size (.slice (some ⟨w.heap.size, 0, none⟩) 0 0) [] := by
    have := World.ownsRow_lit (base := w.heap.size) (e := 3) (size := 1) w #[] 0 (by omega) (by decide) rfl
    simpa [Owns] using this
  have hbA : Below w.heap.size w (w.alloc (.cells #[] 3)) := (Below.refl _ _).alloc (Nat.le_refl _) _
  go_enter Tryz.func37, Tryz.ntmps37
  go_wp2_with fail
  refine (specCodeOk_any C ao cap _ hl (h.below hbA)).mono ?_
  rintro e w1 ⟨rfl, hb1⟩
  have hz1 := hb1.size
  simp at hz1
  have hB1 : Below w.heap.size w w1 := hbA.trans (hb1.mono (by simp))
  have hO3 : Owns w1 w.heap.size (.slice (some ⟨w.heap.size, 0, none⟩) 0 0) [] := Owns.below hlit hb1
  have hcode : CodeAt w1 ao C := h.below hB1
  clear hlit hbA hb1
  cases hC : codeB C with
  | false =>
    go_wp2_with fail
    go_ret
    exact ⟨_, [], rfl, .inr ⟨hC, rfl⟩, hO3, hB1⟩
  | true =>
  obtain ⟨hw, hl16, hok⟩ := codeB_well hC
  have hlit4 : Owns (w1.alloc (.cells #[.int .i64 0] 3)) w1.heap.size (.slice (some ⟨w1.heap.size, 0, none⟩) 1 1) (toI [0]) := by
    have := World.ownsRow_lit (base := w1.heap.size) (e := 3) (size := 1) w1 #[.int .i64 0] 1 (by omega) (by decide) rfl
    simpa [Owns, toI] using this
  go_wp2_with fail
  go_loopw [4, 5] (fun v i wr => ∃ (k : Nat) (L : List Nat), k ≤ L.length ∧ i = .int .i64 k ∧ Owns wr w1.heap.size v (toI L) ∧ Gone C L k ∧ Below w1.heap.size w1 wr) (fun _ i _ => C.length - (intOf i).toNat)
  case atStart => exact ⟨0, [0], by simp, rfl, hlit4, gone_start hw, (Below.refl _ _).alloc (Nat.le_refl _) _⟩
  case round =>
    clear hlit4
    obtain ⟨k, L, hk, rfl, ho, hG, hB⟩ := hrel
    have hLl := gone_len hG
    have hzr := hB.size
    obtain ⟨ao4, cap4, rfl, hc4⟩ := Owns.ints ho
    by_cases hlt : k < L.length
    · have hkn : L[k] < C.length := hG.2.2.1 _ (List.getElem_mem hlt)
      rcases hc4 with e | ⟨b, o, rfl, hbl, hc⟩
      · have e2 : (toI L).length = 0 := by rw [e]; rfl
        rw [toI_len] at e2; omega
      have c0 : wr.cell? ⟨b, o + k, none⟩ = some (.int .i64 (L[k] : Int)) := by
        rw [hc k (by rw [toI_len]; exact hlt)]; simp [toI]
      rw [toI_len] at ho ⊢
      have hki : (k : Int) < (L.length : Int) := by omega
      have hstep : Hid (Gone C (addAll L (nextL C[L[k]] L[k] C.length)) (k + 1)) := gone_step hw hG hlt hkn
      have hnl := next_len C[L[k]] L[k] C.length
      have hcall : Hid (Calls Tryz.prog 68 #[.slice ao C.length cap, .int .i64 (L[k] : Int)] wr fun e w' => ∃ v, e = .returned v ∧ Owns w' wr.heap.size v (toI (nextL C[L[k]] L[k] C.length)) ∧ Below wr.heap.size wr w') := l3Next_any C ao cap L[k] wr hl (hcode.below hB) hkn (hw.2 _ hkn).1
      generalize hxe : L[k] = x at *
      generalize nextL C[x] x C.length = M at *
      clear hc hxe
      go_wp2_with fail
      refine hcall.out.mono ?_
      rintro e w2 ⟨v6, rfl, ho6, hb6⟩
      have hz6 := hb6.size
      have ho2 : Owns w2 w1.heap.size (.slice (some ⟨b, o, none⟩) L.length cap4) (toI L) := by
        have := Owns.below (v := .slice (some ⟨b, o, none⟩) L.length cap4) (L := toI L) (w := wr) (w' := w2) (B := w1.heap.size) ho hb6
        exact this
      have hB2 : Below w1.heap.size w1 w2 := hB.trans (hb6.mono (by omega))
      have hge6 : ∀ q, v6.ownBlock = some q → wr.heap.size ≤ q := fun q hq => (World.ownsRow.lt ho6 q hq).1
      obtain ⟨ao6, cap6, rfl, hc6⟩ := Owns.ints ho6
      have hbb : (Value.slice (some ⟨b, o, none⟩) L.length cap4).ownBlock = some b := rfl
      have hblt : b < wr.heap.size := hbl
      clear ho6 hb6 ho hcall
      rw [toI_len]
      generalize hv4 : (Value.slice (some ⟨b, o, none⟩) L.length cap4) = v4 at *
      go_wp2_with fail
      go_loopw [4, 7] (fun v i wy => ∃ j : Nat, j ≤ M.length ∧ i = .int .i64 j ∧ Owns wy w1.heap.size v (toI (addAll L (M.take j))) ∧ Below w1.heap.size w1 wy ∧ w2.heap.size ≤ wy.heap.size ∧ (M = [] ∨ ∃ b6 o6, ao6 = some ⟨b6, o6, none⟩ ∧ b6 < w2.heap.size ∧ v.ownBlock ≠ some b6 ∧ ∀ q (hq : q < M.length), wy.cell? ⟨b6, o6 + q, none⟩ = some (.int .i64 (M[q] : Int)))) (fun _ i _ => M.length - (intOf i).toNat)
      case atStart =>
        refine ⟨0, Nat.zero_le _, rfl, by simpa [addAll] using ho2, hB2, Nat.le_refl _, ?_⟩
        rcases hc6 with e | ⟨b6, o6, rfl, hbl6, hcc⟩
        · have e2 : (toI M).length = 0 := by rw [e]; rfl
          rw [toI_len] at e2
          exact .inl (List.eq_nil_of_length_eq_zero e2)
        · refine .inr ⟨b6, o6, rfl, hbl6, ?_, fun q hq => by rw [hcc q (by rw [toI_len]; exact hq)]; simp [toI]⟩
          have := hge6 b6 rfl
          rw [hbb]
          intro e
          cases e
          omega
      case round =>
        clear ho2 hB2 hc6 hv4 hbb hge6
        obtain ⟨j, hj, rfl, ho, hBy, hzy, hcy⟩ := hrel
        have hal := addAll_len (M.take j) L
        simp only [List.length_take] at hal
        by_cases hjlt : j < M.length
        · rcases hcy with rfl | ⟨b6, o6, rfl, hbl6, hne, hcc⟩
          · exact absurd hjlt (by simp)
          have d0 := hcc j hjlt
          have hji : (j : Int) < (M.length : Int) := by omega
          have hst : Hid (addAll L (M.take (j + 1)) = addL (addAll L (M.take j)) M[j]) := addAll_at L M j hjlt
          generalize hKe : addAll L (M.take j) = K at *
          generalize M[j] = y at *
          have hcc' : Hid (∀ q (hq : q < M.length), wr.cell? ⟨b6, o6 + q, none⟩ = some (.int .i64 (M[q] : Int))) := hcc
          clear hcc hKe
          go_wp2_with fail
          refine (among_any _ (toI K) _ (y : Int) _ (by rw [toI_len]; omega) (Owns.ints ho)).mono ?_
          rintro e wq ⟨rfl, hwq⟩
          rw [hwq, hasI_toI]
          clear hwq
          cases hh : K.contains y with
          | true =>
            have hst2 : Hid (addAll L (M.take (j + 1)) = K) := by
              show addAll L (M.take (j + 1)) = K
              rw [hst.out]; unfold addL; rw [if_pos hh]
            go_wp2_with fail
            go_roundw
            case rel => exact ⟨j + 1, by omega, by go_num, by rw [hst2.out]; exact ho, hBy, hzy, .inr ⟨b6, o6, rfl, hbl6, hne, hcc'.out⟩⟩
            case measure => simp [intOf]; omega
          | false =>
            have hst2 : Hid (addAll L (M.take (j + 1)) = K ++ [y]) := by
              show addAll L (M.take (j + 1)) = K ++ [y]
              rw [hst.out]; unfold addL; rw [if_neg (by rw [hh]; decide)]
            go_wp2_with (refine wpList_append_int _ rfl (.tmp 40) (.tmp 45) rfl ⟨wr.heap.size, 0, none⟩ 1 (y : Int) rfl rfl (World.ownsRow.alloc ho _) (by simp [go_sem]) (by rw [toI_len]; omega) (by simp <;> omega) ?_; intro v7 w7 ho7 hg7 hw7)
            have hz7 := hg7.size
            simp at hz7
            have hB7 : Below w1.heap.size w1 w7 := (hBy.alloc (by omega) _).grown hg7 (by simp <;> omega) (by intro k hk; have := (World.ownsRow.lt ho k hk).1; omega)
            go_roundw
            case rel =>
              refine ⟨j + 1, by omega, by go_num, by rw [hst2.out, toI_app]; exact ho7, hB7, by omega, .inr ⟨b6, o6, rfl, hbl6, ?_, fun q hq => ?_⟩⟩
              · rcases hw7 with e | e
                · rw [e]; exact hne
                · rw [e]; simp; omega
              · refine hg7.cell ?_ (fun e => hne e.symm)
                rw [World.cell?_alloc_past _ _ _ (by omega)]
                exact hcc'.out q hq
            case measure => simp [intOf]; omega
        · have e : j = M.length := by omega
          subst e
          rw [List.take_length] at ho
          obtain ⟨K, hK⟩ := addAll_pre M L
          have hlen : k + 1 ≤ (addAll L M).length := by rw [hK]; simp; omega
          clear hcy hK hal
          go_wp2_with fail
          go_roundw
          case rel => exact ⟨k + 1, addAll L M, hlen, by go_num, ho, hstep.out, hBy⟩
          case measure => simp [intOf]; omega
    · have e : L.length ≤ k := by omega
      have hR := gone_done hG e
      have hke : k = L.length := by omega
      subst hke
      have h0L : 0 ∈ L := hG.2.1
      rcases hc4 with e | ⟨b, o, rfl, hbl, hc⟩
      · have e2 : (toI L).length = 0 := by rw [e]; rfl
        rw [toI_len] at e2
        rw [List.eq_nil_of_length_eq_zero e2] at h0L
        cases h0L
      have hbg : w1.heap.size ≤ b := (World.ownsRow.lt ho b rfl).1
      have hO3' : Owns wr w.heap.size (.slice (some ⟨w.heap.size, 0, none⟩) 0 0) [] := by
        have := World.ownsRow.kept (w' := wr) (row := none) (v := .slice (some ⟨w.heap.size, 0, none⟩) 0 0) hO3 ⟨hB.os, hB.tape, hB.output, hB.size, fun q hq _ => hB.block q (by omega)⟩ (.inr (by simp [Value.ownBlock]))
        exact this
      rw [toI_len] at ho ⊢
      clear ho hG hO3
      obtain ⟨inf, i1, i2, i3, i4⟩ := info_intI
      go_wp2_with fail
      go_loopw [3, 8] (fun v i wz => ∃ q : Nat, q ≤ C.length ∧ i = .int .i64 q ∧ Owns wz w.heap.size v (toI (sortTo L q)) ∧ Below w.heap.size w1 wz ∧ b < wz.heap.size ∧ v.ownBlock ≠ some b ∧ ∀ p (hp : p < (toI L).length), wz.cell? ⟨b, o + p, none⟩ = some (.int .i64 (toI L)[p])) (fun _ i _ => C.length - (intOf i).toNat)
      case atStart => exact ⟨0, Nat.zero_le _, rfl, hO3', hB.mono (by omega), hbl, by simp [Value.ownBlock]; omega, hc⟩
      case round =>
        clear hO3' hc hbl hB hzr
        obtain ⟨q, hq, rfl, ho, hBz, hbl, hne, hc⟩ := hrel
        have hsl := sortTo_len L q
        have hzz := hBz.size
        by_cases hqlt : q < C.length
        · have hI : Ints (b + 1) wr (.slice (some ⟨b, o, none⟩) L.length cap4) (toI L) := ⟨_, cap4, by rw [toI_len], .inr ⟨b, o, rfl, by omega, hc⟩⟩
          have hst : Hid (sortTo L (q + 1) = if L.contains q = true then sortTo L q ++ [q] else sortTo L q) := sortTo_step L q
          generalize hKe : sortTo L q = K at *
          have hc' : Hid (∀ p (hp : p < (toI L).length), wr.cell? ⟨b, o + p, none⟩ = some (.int .i64 (toI L)[p])) := hc
          clear hc hKe
          go_wp2_with fail
          refine (among_any _ (toI L) _ (q : Int) _ (by rw [toI_len]; omega) hI).mono ?_
          rintro e wq ⟨rfl, hwq⟩
          rw [hwq, hasI_toI]
          clear hwq
          cases hh : L.contains q with
          | false =>
            have hst2 : Hid (sortTo L (q + 1) = K) := by show sortTo L (q + 1) = K; rw [hst.out, if_neg (by rw [hh]; decide)]
            go_wp2_with fail
            go_roundw
            case rel => exact ⟨q + 1, by omega, by go_num, by rw [hst2.out]; exact ho, hBz, hbl, hne, hc'.out⟩
            case measure => simp [intOf]; omega
          | true =>
            have hst2 : Hid (sortTo L (q + 1) = K ++ [q]) := by show sortTo L (q + 1) = K ++ [q]; rw [hst.out, if_pos hh]
            go_wp2_with (refine wpList_append_int _ rfl (.tmp 56) (.tmp 58) rfl ⟨wr.heap.size, 0, none⟩ 1 (q : Int) rfl rfl (World.ownsRow.alloc ho _) (by simp [go_sem]) (by rw [toI_len]; omega) (by simp <;> omega) ?_; intro v7 w7 ho7 hg7 hw7)
            have hz7 := hg7.size
            simp at hz7
            have hB7 : Below w.heap.size w1 w7 := (hBz.alloc (by omega) _).grown hg7 (by simp <;> omega) (by intro k hk; have := (World.ownsRow.lt ho k hk).1; omega)
            go_roundw
            case rel =>
              refine ⟨q + 1, by omega, by go_num, by rw [hst2.out, toI_app]; exact ho7, hB7, by omega, ?_, fun p hp => ?_⟩
              · rcases hw7 with e | e
                · rw [e]; exact hne
                · rw [e]; simp; omega
              · refine hg7.cell ?_ (fun e => hne e.symm)
                rw [World.cell?_alloc_past _ _ _ (by omega)]
                exact hc'.out p hp
            case measure => simp [intOf]; omega
        · have e : q = C.length := by omega
          subst e
          go_wp2_with fail
          go_ret
          exact ⟨_, _, rfl, .inl ⟨hC, L, hR, rfl⟩, ho, hB1.trans hBz⟩
end Go.Proofs.YtjhpaoadpcnlnaaGreatDoor
namespace Go.Proofs.YtjhpaoadpcnlnaaGreatDoor
open Go.ChangeShapes Go.WideShapes Go.ChangeAt Go.RowKit Go.Joins
theorem Ints.drew {S : Nat} {w : World} {v : Value} {L : List Int} (h : Ints S w v L) : Ints S w.drew v L := h.below (Below.refl _ _).drew
theorem Ints.drewN {S : Nat} {w : World} {v : Value} {L : List Int} (h : Ints S w v L) (q : Nat) : Ints S (w.drewN q) v L := h.below ⟨rfl, rfl, rfl, Nat.le_refl _, fun _ _ => rfl⟩
theorem ints_lit1 (w : World) (x : Int) : Ints (w.alloc (.cells #[.int .i64 x] 3)).heap.size (w.alloc (.cells #[.int .i64 x] 3)) (.slice (some ⟨w.heap.size, 0, none⟩) 1 1) [x] :=
  ⟨_, 1, rfl, .inr ⟨w.heap.size, 0, rfl, by simp, fun i hi => by
    have : i = 0 := by simp at hi; omega
    subst this
    simp [go_sem]⟩⟩
theorem ints_lit2 (w : World) (x y : Int) : Ints (w.alloc (.cells #[.int .i64 x, .int .i64 y] 3)).heap.size (w.alloc (.cells #[.int .i64 x, .int .i64 y] 3)) (.slice (some ⟨w.heap.size, 0, none⟩) 2 2) [x, y] :=
  ⟨_, 2, rfl, .inr ⟨w.heap.size, 0, rfl, by simp, fun i hi => by
    rcases (by simp at hi; omega : i = 0 ∨ i = 1) with rfl | rfl
    · simp [go_sem]
    · simp [go_sem]⟩⟩
theorem ints_lit1' (w : World) (x : Int) (n : Nat) (hn : w.heap.size = n) : Ints (n + 1) (w.alloc (.cells #[.int .i64 x] 3)) (.slice (some ⟨n, 0, none⟩) 1 1) [x] := by
  subst hn; simpa using ints_lit1 w x
theorem ints_lit2' (w : World) (x y : Int) (n : Nat) (hn : w.heap.size = n) : Ints (n + 1) (w.alloc (.cells #[.int .i64 x, .int .i64 y] 3)) (.slice (some ⟨n, 0, none⟩) 2 2) [x, y] := by
  subst hn; simpa using ints_lit2 w x y
/-- the first numbers of a row -/
theorem Ints.take {S : Nat} {w : World} {b o cap : Nat} {L : List Int} (hb : b < S) (h : ∀ i (h : i < L.length), w.cell? ⟨b, o + i, none⟩ = some (.int .i64 L[i])) (k : Nat) (hk : k ≤ L.length) : Ints S w (.slice (some ⟨b, o, none⟩) k cap) (L.take k) :=
  ⟨_, cap, by rw [List.length_take, Nat.min_eq_left hk], .inr ⟨b, o, rfl, hb, fun i hi => by
    rw [List.length_take] at hi
    rw [h i (by omega), List.getElem_take]⟩⟩
theorem hasI_take {L : List Int} (hn : L.Nodup) (k : Nat) (hk : k < L.length) : hasI (L.take k) L[k] = false := by
  refine hasI_no fun j hj => ?_
  rw [List.length_take] at hj
  rw [List.getElem_take]
  intro e
  have := (List.getElem_inj hn).1 e
  omega
set_option maxHeartbeats 2000000 in
theorem lvInts_same (S : Nat) (L : List Int) (u v : Value) (w : World) (hl : L.length ≤ 1048576) (hu : Ints S w u L) (hv : Ints S w v L) :
    Calls Tryz.prog 30 #[u, v] w fun e w' => e = .returned (.bool true) ∧ Below w.heap.size w w' := by
  obtain ⟨ao, c, rfl, hu⟩ := hu
  obtain ⟨bo, d, rfl, hv⟩ := hv
  rcases hu with rfl | ⟨b, o, rfl, _, hc⟩
  · go_enter Tryz.func30, Tryz.ntmps30
    go_wp2_with fail
    refine wp_loop_rounds 1 ?_
    rw [rounds_succ]
    go_wp2_with fail
    go_ret
    exact ⟨rfl, Below.refl _ _⟩
  rcases hv with rfl | ⟨b', o', rfl, _, hd⟩
  · go_enter Tryz.func30, Tryz.ntmps30
    go_wp2_with fail
    refine wp_loop_rounds 1 ?_
    rw [rounds_succ]
    go_wp2_with fail
    go_ret
    exact ⟨rfl, Below.refl _ _⟩
  · go_enter Tryz.func30, Tryz.ntmps30
    go_wp2_with fail
    go_loopw [5] (fun i wr => ∃ k : Nat, k ≤ L.length ∧ i = .int .i64 k ∧ ∃ q, wr = w.drewN q) (fun i _ => L.length - (intOf i).toNat)
    case atStart => exact ⟨0, Nat.zero_le _, rfl, 0, rfl⟩
    case round =>
      obtain ⟨k, hk, rfl, q, rfl⟩ := hrel
      by_cases hlt : k < L.length
      · have c0 : (w.drewN q).cell? ⟨b, o + k, none⟩ = some (.int .i64 L[k]) := hc k hlt
        have d0 : (w.drewN q).cell? ⟨b', o' + k, none⟩ = some (.int .i64 L[k]) := hd k hlt
        obtain ⟨W, hW⟩ : ∃ W, W = w.drewN q := ⟨_, rfl⟩
        rw [← hW] at c0 d0 ⊢
        have HW : Hid (W = w.drewN q) := hW
        clear hW hc hd
        generalize L[k] = x at *
        go_wp2_with fail
        go_quiet (fail)
        go_wp2_with fail
        go_roundw
        case rel => exact ⟨k + 1, by omega, by go_num, q + nq, by rw [HW.out]; simp [World.drewN]; omega⟩
        case measure => simp [intOf]; omega
      · have e : k = L.length := by omega
        subst e
        go_wp2_with fail
        go_ret
        exact ⟨rfl, below_drewN (Below.refl _ _) _⟩
set_option maxHeartbeats 1000000 in
theorem lvAmong_any (S : Nat) (L : List Int) (v : Value) (n : Int) (w : World) (hl : L.length ≤ 1048576) (h : Ints S w v L) :
    Calls Tryz.prog 38 #[v, .int .i64 n] w fun e w' => e = .returned (.bool (hasI L n)) ∧ w' = w := by
  obtain ⟨ao, cap, rfl, h⟩ := h
  rcases h with rfl | ⟨b, o, rfl, _, hc⟩
  · go_enter Tryz.func38, Tryz.ntmps38
    go_wp2_with fail
    refine wp_loop_rounds 1 ?_
    rw [rounds_succ]
    go_wp2_with fail
    go_ret
    exact ⟨rfl, rfl⟩
  · go_enter Tryz.func38, Tryz.ntmps38
    go_wp2_with fail
    go_loop [5] (fun i => ∃ k : Nat, k ≤ L.length ∧ i = .int .i64 k ∧ ∀ j (h : j < L.length), j < k → L[j] ≠ n) (fun i => L.length - (intOf i).toNat)
    case atStart => exact ⟨0, Nat.zero_le _, rfl, fun j _ h => by omega⟩
    case round =>
      obtain ⟨k, hk, rfl, hU⟩ := hrel
      by_cases hlt : k < L.length
      · have c0 := hc k hlt
        obtain ⟨x, hx0⟩ : ∃ x, x = L[k] := ⟨_, rfl⟩
        rw [← hx0] at c0
        have hx : Hid (x = L[k]) := hx0
        clear hx0 hc
        by_cases e0 : x = n
        · have e' : (x == n) = true := by simp [e0]
          have e : Hid (x = n) := e0
          clear e0
          go_wp2_with fail
          go_ret
          have : hasI L n = true := hasI_yes (by rw [← e.out, hx.out]; exact List.getElem_mem hlt)
          exact ⟨by rw [this]; rfl, rfl⟩
        · have e' : (x == n) = false := by simp [e0]
          have e : Hid (¬ x = n) := e0
          clear e0
          go_wp2_with fail
          go_round
          case rel => exact ⟨k + 1, by omega, by go_num, fun j hj hjk => by
            by_cases h : j < k
            · exact hU j hj h
            · have : j = k := by omega
              subst this
              rw [← hx.out]; exact e.out⟩
          case measure => simp [intOf]; omega
      · have e : k = L.length := by omega
        subst e
        go_wp2_with fail
        go_ret
        have : hasI L n = false := hasI_no fun j hj => hU j hj hj
        exact ⟨by rw [this]; rfl, rfl⟩
set_option maxHeartbeats 4000000 in
theorem lvBit_any (x s : Int) (w : World) (h0 : 0 ≤ x) (h1 : x ≤ 15) (hs0 : 0 ≤ s) (hs1 : s ≤ 3) :
    Calls Tryz.prog 33 #[.int .i64 x, .int .i64 s] w fun e w' => e = .returned (.bool (hasB x s)) ∧ w' = w := by
  rcases (by omega : s = 0 ∨ s = 1 ∨ s = 2 ∨ s = 3) with rfl | rfl | rfl | rfl
  · have hb : Hid (hasB x 0 = (x % 2 == 1)) := by
      have key : ∀ i : Fin 16, hasB (i.val : Int) 0 = ((i.val : Int) % 2 == 1) := by decide +kernel
      have := key ⟨x.toNat, by omega⟩
      simp only [Int.toNat_of_nonneg h0] at this
      exact this
    go_enter Tryz.func33, Tryz.ntmps33
    go_wp2_with fail
    refine wp_loop_rounds 1 ?_
    rw [rounds_succ]
    go_wp2_with fail
    go_ret
    exact ⟨by rw [hb.out]; rfl, rfl⟩
  · have hb : Hid (hasB x 1 = (x / 2 % 2 == 1)) := by
      have key : ∀ i : Fin 16, hasB (i.val : Int) 1 = ((i.val : Int) / 2 % 2 == 1) := by decide +kernel
      have := key ⟨x.toNat, by omega⟩
      simp only [Int.toNat_of_nonneg h0] at this
      exact this
    go_enter Tryz.func33, Tryz.ntmps33
    go_wp2_with fail
    refine wp_loop_rounds 2 ?_
    rw [rounds_succ]
    go_wp2_with fail
    rw [rounds_succ]
    go_wp2_with fail
    go_ret
    exact ⟨by rw [hb.out]; rfl, rfl⟩
  · have hb : Hid (hasB x 2 = (x / 2 / 2 % 2 == 1)) := by
      have key : ∀ i : Fin 16, hasB (i.val : Int) 2 = ((i.val : Int) / 2 / 2 % 2 == 1) := by decide +kernel
      have := key ⟨x.toNat, by omega⟩
      simp only [Int.toNat_of_nonneg h0] at this
      exact this
    go_enter Tryz.func33, Tryz.ntmps33
    go_wp2_with fail
    refine wp_loop_rounds 3 ?_
    rw [rounds_succ]
    go_wp2_with fail
    rw [rounds_succ]
    go_wp2_with fail
    rw [rounds_succ]
    go_wp2_with fail
    go_ret
    exact ⟨by rw [hb.out]; rfl, rfl⟩
  · have hb : Hid (hasB x 3 = (x / 2 / 2 / 2 % 2 == 1)) := by
      have key : ∀ i : Fin 16, hasB (i.val : Int) 3 = ((i.val : Int) / 2 / 2 / 2 % 2 == 1) := by decide +kernel
      have := key ⟨x.toNat, by omega⟩
      simp only [Int.toNat_of_nonneg h0] at this
      exact this
    go_enter Tryz.func33, Tryz.ntmps33
    go_wp2_with fail
    refine wp_loop_rounds 4 ?_
    rw [rounds_succ]
    go_wp2_with fail
    rw [rounds_succ]
    go_wp2_with fail
    rw [rounds_succ]
    go_wp2_with fail
    rw [rounds_succ]
    go_wp2_with fail
    go_ret
    exact ⟨by rw [hb.out]; rfl, rfl⟩
set_option maxHeartbeats 4000000 in
theorem lvIn_yes (x y : Int) (w : World) (h0 : 0 ≤ x) (h1 : x ≤ 15) (h2 : 0 ≤ y) (h3 : y ≤ 15) (h : ∀ s : Nat, s < 4 → hasB x (s : Int) = true → hasB y (s : Int) = true) :
    Calls Tryz.prog 32 #[.int .i64 x, .int .i64 y] w fun e w' => e = .returned (.bool true) ∧ w' = w := by
  replace h : Hid (∀ s : Nat, s < 4 → hasB x (s : Int) = true → hasB y (s : Int) = true) := h
  go_enter Tryz.func32, Tryz.ntmps32
  go_wp2_with fail
  go_loop [5] (fun i => ∃ k : Nat, k ≤ 4 ∧ i = .int .i64 k) (fun i => 4 - (intOf i).toNat)
  case atStart => exact ⟨0, by omega, rfl⟩
  case round =>
    obtain ⟨k, hk, rfl⟩ := hrel
    by_cases hlt : k < 4
    · have g1 : (k : Int) ≤ 3 := by omega
      cases hx : hasB x (k : Int) with
      | false =>
        go_wp2_with (go_at_call 33; refine (lvBit_any _ _ _ h0 h1 (by omega) (by omega)).mono ?_; rintro e w1 ⟨rfl, rfl⟩; rw [hx])
        go_round
        case rel => exact ⟨k + 1, by omega, by go_num⟩
        case measure => simp [intOf]; omega
      | true =>
        have hy := h.out k hlt hx
        go_wp2_with fail
        refine (lvBit_any x _ _ h0 h1 (by omega) (by omega)).mono ?_
        rintro e w1 ⟨rfl, rfl⟩
        rw [hx]
        go_wp2_with fail
        refine (lvBit_any y _ _ h2 h3 (by omega) (by omega)).mono ?_
        rintro e w1 ⟨rfl, rfl⟩
        rw [hy]
        go_wp2_with fail
        go_round
        case rel => exact ⟨k + 1, by omega, by go_num⟩
        case measure => simp [intOf]; omega
    · have e : k = 4 := by omega
      subst e
      go_wp2_with fail
      go_ret
      exact ⟨rfl, rfl⟩
set_option maxHeartbeats 4000000 in
theorem lvFills_any (k : Int) (w : World) (h1 : 1 ≤ k) (h2 : k ≤ 14) : Calls Tryz.prog 34 #[.int .i64 k] w fun e w' => e = .returned (.bool (fillsB k)) ∧ w' = w := by
  rcases kinds14 h1 h2 with rfl | rfl | rfl | rfl | rfl | rfl | rfl | rfl | rfl | rfl | rfl | rfl | rfl | rfl <;>
  · go_enter Tryz.func34, Tryz.ntmps34
    go_wp2_with fail
    go_ret
    exact ⟨rfl, rfl⟩
end Go.Proofs.YtjhpaoadpcnlnaaGreatDoor
namespace Go.Proofs.YtjhpaoadpcnlnaaGreatDoor
theorem reach_code {C : List OpV} {L : List Int} (h : ReachOf C L) (hn : L.length ≠ 0) : codeB C = true ∧ ∃ R, IsReach C (fun x => x ∈ R) ∧ L = toI (sortR C.length R) := by
  rcases h with h | ⟨_, h⟩
  · exact h
  · rw [h] at hn; exact absurd rfl hn
theorem full_code {C : List OpV} {L : List Int} (h : FullOf C L) (hC : codeB C = true) : IsFull C L := by
  rcases h with ⟨_, h⟩ | ⟨h, _⟩
  · exact h
  · rw [hC] at h; cases h
theorem full_code' {C : List OpV} {L : List Int} (h : FullOf C L) (hn : L.length ≠ 0) : codeB C = true ∧ IsFull C L := by
  rcases h with h | ⟨_, h⟩
  · exact h
  · rw [h] at hn; exact absurd rfl hn
theorem full_len {C : List OpV} {V : List Int} (h : IsFull C V) : V.length = C.length := h.1.1.1
theorem mem_sortR {n : Nat} {R : List Nat} {i : Nat} : i ∈ sortR n R ↔ i < n ∧ i ∈ R := by
  unfold sortR; rw [List.mem_filter, List.mem_range, List.contains_iff_mem]
theorem hasI_sort {n : Nat} {R : List Nat} (i : Nat) (hi : i < n) : hasI (toI (sortR n R)) (i : Int) = decide (i ∈ R) := by
  rw [hasI_toI, Bool.eq_iff_iff, List.contains_iff_mem, mem_sortR, decide_eq_true_eq]
  exact ⟨fun h => h.2, fun h => ⟨hi, h⟩⟩
theorem atV_at {V : List Int} {i : Nat} (h : i < V.length) : atV V i = V[i] := by
  unfold atV; rw [List.getD_eq_getElem?_getD, List.getElem?_eq_getElem h]; rfl
theorem reach_has {C : List OpV} (hC : codeB C = true) {V : List Int} (hV : IsFull C V) {R : List Nat} (hR : IsReach C (fun x => x ∈ R)) (i : Nat) (hi : i < C.length) :
    hasI (toI (sortR C.length R)) (i : Int) = decide (0 ≤ atV V i) := by
  rw [hasI_sort i hi, decide_eq_decide]
  exact (full_reach (codeB_well hC).1 hV hR i hi).symm
theorem filter_head {n : Nat} (hn : 0 < n) (p : Nat → Bool) (h : p 0 = true) : ((List.range n).filter p)[0]? = some 0 := by
  obtain ⟨m, rfl⟩ : ∃ m, n = m + 1 := ⟨n - 1, by omega⟩
  rw [List.range_succ_eq_map, List.filter_cons, if_pos h]; rfl
theorem reach_first {C : List OpV} (hC : codeB C = true) {R : List Nat} (hR : IsReach C (fun x => x ∈ R)) (h : 0 < (toI (sortR C.length R)).length) : (toI (sortR C.length R))[0] = 0 := by
  have h0 : (sortR C.length R)[0]? = some 0 := filter_head (codeB_well hC).1.1 _ (by rw [List.contains_iff_mem]; exact hR.1.1)
  have h1 : (toI (sortR C.length R))[0]? = some 0 := by unfold toI; rw [List.getElem?_map, h0]; rfl
  rw [List.getElem?_eq_getElem h] at h1
  exact Option.some.inj h1
/-- the places to which one comes, by kinds -/
theorem nk_end {o : OpV} {i n : Nat} (h : o.k = 14) : nextL o i n = [] := by simp [nextL, goesB, h]
theorem nk_go {o : OpV} {i n : Nat} (h : o.k = 9) : nextL o i n = [o.t.toNat] := by simp [nextL, goesB, h]
theorem nk_to {o : OpV} {i n : Nat} (h : o.k = 5 ∨ o.k = 8 ∨ o.k = 10) : (i + 1 < n → o.t.toNat ≠ i + 1 → nextL o i n = [i + 1, o.t.toNat]) ∧ (i + 1 < n → o.t.toNat = i + 1 → nextL o i n = [o.t.toNat]) ∧ (¬ i + 1 < n → nextL o i n = [o.t.toNat]) := by
  have e1 : (o.k == 9 || o.k == 14) = false := by rcases h with h | h | h <;> simp [h]
  have e2 : goesB o.k = true := by rcases h with h | h | h <;> simp [goesB, h]
  refine ⟨fun h1 h2 => ?_, fun h1 h2 => ?_, fun h1 => ?_⟩
  · have : ([i + 1].contains o.t.toNat) = false := by simp; exact h2
    simp only [nextL, e1, e2, h1, this, Bool.not_false, decide_true, Bool.and_true, if_true]; rfl
  · have : ([i + 1].contains o.t.toNat) = true := by simp [h2]
    simp only [nextL, e1, e2, h1, this, Bool.not_false, decide_true, Bool.and_true, if_true, Bool.true_and, Bool.not_true]; simp [h2]
  · simp only [nextL, e1, e2, h1, Bool.not_false, decide_false, Bool.and_false, Bool.true_and]; simp
theorem nk_other {o : OpV} {i n : Nat} (h : o.k ≠ 14 ∧ o.k ≠ 9 ∧ o.k ≠ 5 ∧ o.k ≠ 8 ∧ o.k ≠ 10) : (i + 1 < n → nextL o i n = [i + 1]) ∧ (¬ i + 1 < n → nextL o i n = []) := by
  obtain ⟨h1, h2, h3, h4, h5⟩ := h
  exact ⟨fun hh => by simp [nextL, goesB, h1, h2, h3, h4, h5, hh], fun hh => by simp [nextL, goesB, h2, h3, h4, h5, hh]⟩
theorem nkI_len (C : List OpV) (i : Int) : (nextI C i).length ≤ 2 := by
  unfold nextI; split
  · rw [toI_len]; exact next_len _ _ _
  · simp
theorem toI_nodup {L : List Nat} (h : L.Nodup) : (toI L).Nodup := by
  unfold toI
  exact List.Pairwise.map _ (fun a b hab e => hab (by omega)) h
theorem nkI_nodup (C : List OpV) (i : Int) : (nextI C i).Nodup := by
  unfold nextI; split
  · exact toI_nodup (next_nodup _ _ _)
  · simp
theorem nkI_bd {C : List OpV} (hC : codeB C = true) {i : Nat} (hi : i < C.length) : ∀ x ∈ nextI C (i : Int), 0 ≤ x ∧ x < (C.length : Int) := by
  rw [nextI_yes hC hi]
  intro x hx
  obtain ⟨j, hj, rfl⟩ := List.mem_map.1 hx
  have := next_lt (codeB_well hC).1 hi j hj
  exact ⟨by omega, by omega⟩
end Go.Proofs.YtjhpaoadpcnlnaaGreatDoor
