/-
  spec.l2Cut over this translation: a text, cut at a byte, in a row of its own; nothing that was there turns.
-/
import Derived.Test.YtekmjgkjpdhedaaGreatDoorText
import Derived.OwnWalk
import Derived.Laws.OwnMore
import Derived.BigRegion
import Derived.RegionTactic
namespace Go.Proofs.YtekmjgkjpdhedaaGreatDoor
open Go.ChangeShapes Go.WideShapes Go.ChangeAt Go.RowKit Go.Joins
def cutStepAt (b : UInt8) (out : List (List UInt8)) (c : UInt8) : List (List UInt8) := if c = b then out ++ [[]] else out.dropLast ++ [out.getLastD [] ++ [c]]
def cutsAt (b : UInt8) (t : List UInt8) : List (List UInt8) := t.foldl (cutStepAt b) [[]]
theorem cutsAt_snoc (b : UInt8) (t : List UInt8) (c : UInt8) : cutsAt b (t ++ [c]) = cutStepAt b (cutsAt b t) c := by
  unfold cutsAt; rw [List.foldl_append]; rfl
theorem cutStepAt_some (b : UInt8) (out : List (List UInt8)) (c : UInt8) : cutStepAt b out c ≠ [] := by
  unfold cutStepAt; split <;> simp
theorem cutsAt_some (b : UInt8) (t : List UInt8) : cutsAt b t ≠ [] := by
  have key : ∀ (t : List UInt8) (P : List (List UInt8)), P ≠ [] → t.foldl (cutStepAt b) P ≠ [] := by
    intro t
    induction t with
    | nil => intro P h; exact h
    | cons c t ih => intro P h; exact ih _ (cutStepAt_some b P c)
  exact key t [[]] (by simp)
theorem cutsAt_len (b : UInt8) (t : List UInt8) : (cutsAt b t).length ≤ t.length + 1 ∧ ∀ x ∈ cutsAt b t, x.length ≤ t.length := by
  have key : ∀ (t : List UInt8) (P : List (List UInt8)) (m : Nat), P ≠ [] → (∀ x ∈ P, x.length ≤ m) → (t.foldl (cutStepAt b) P).length ≤ P.length + t.length ∧ ∀ x ∈ t.foldl (cutStepAt b) P, x.length ≤ m + t.length := by
    intro t
    induction t with
    | nil => intro P m h1 h2; exact ⟨by simp, by simpa using h2⟩
    | cons c t ih =>
      intro P m h1 h2
      have hn : (cutStepAt b P c).length ≤ P.length + 1 := by
        unfold cutStepAt; split
        · simp
        · simp
      have hx : ∀ x ∈ cutStepAt b P c, x.length ≤ m + 1 := by
        intro x hx
        unfold cutStepAt at hx
        split at hx
        · rcases List.mem_append.1 hx with h | h
          · have := h2 x h; omega
          · rw [List.mem_singleton.1 h]; simp
        · rcases List.mem_append.1 hx with h | h
          · have := h2 x ((List.dropLast_sublist P).subset h); omega
          · rw [List.mem_singleton.1 h]
            have e : P.getLastD [] ∈ P := by
              rw [List.getLastD_eq_getLast?, List.getLast?_eq_some_getLast h1]
              exact List.getLast_mem h1
            have := h2 _ e
            rw [List.length_append, List.length_singleton]; omega
      obtain ⟨k1, k2⟩ := ih (cutStepAt b P c) (m + 1) (cutStepAt_some b P c) hx
      refine ⟨by simp only [List.foldl_cons, List.length_cons]; omega, fun x hx => ?_⟩
      have := k2 x hx
      simp only [List.length_cons]; omega
  obtain ⟨h1, h2⟩ := key t [[]] 0 (by simp) (by simp)
  exact ⟨by simpa [cutsAt, Nat.add_comm] using h1, fun x hx => by have := h2 x hx; omega⟩
abbrev strV (x : List UInt8) : Value := .string ⟨x.toArray⟩
/-- texts in a row of one's own -/
abbrev OwnsT (w : World) (B : Nat) (v : Value) (L : List (List UInt8)) : Prop := w.ownsRow B 9 1 v L.length (L.map strV)
theorem info_str : ∃ i, Tryz.prog.info? 9 = some i ∧ i.zero = some (.string ⟨#[]⟩) ∧ i.size = 1 ∧ i.bytes = 16 :=
  ⟨(Tryz.prog.info? 9).get (by kernel_rfl), (Option.some_get _).symm, by kernel_rfl, by kernel_rfl, by kernel_rfl⟩
theorem last_set (L : List (List UInt8)) (h : L ≠ []) (x : List UInt8) : L.set (L.length - 1) x = L.dropLast ++ [x] := by
  have e := List.dropLast_concat_getLast h
  conv => lhs; rw [← e]
  have hl : (L.dropLast ++ [L.getLast h]).length - 1 = L.dropLast.length := by simp
  rw [hl, List.set_append_right _ _ (Nat.le_refl _)]
  simp
theorem last_at (L : List (List UInt8)) (h : L ≠ []) : L[L.length - 1]? = some (L.getLastD []) := by
  rw [List.getLastD_eq_getLast?, ← List.getLast?_eq_getElem?, List.getLast?_eq_some_getLast h]; rfl
theorem take_snocB (s : ByteArray) (k : Nat) (h : k < s.size) : s.data.toList.take (k + 1) = s.data.toList.take k ++ [s[k]] := by
  rw [List.take_add_one, List.getElem?_eq_getElem (by simpa using h)]; rfl
theorem nums_one (c : UInt8) : strOfNums [(c.toNat : Int)] = ⟨[c].toArray⟩ := by
  apply ByteArray.ext
  show (#[UInt8.ofNat ((c.toNat : Int)).toNat] : Array UInt8) = #[c]
  simp
set_option maxRecDepth 20000 in
set_option maxHeartbeats 8000000 in
theorem l2Cut_any (s : ByteArray) (b : UInt8) (w : World) (hl : s.size ≤ 1048576) :
    Calls Tryz.prog 32 #[.string s, .int .u8 (b.toNat : Int)] w fun e w' => ∃ v, e = .returned v ∧ OwnsT w' w.heap.size v (cutsAt b s.data.toList) ∧ Below w.heap.size w w' := by
  have hlit : OwnsT (w.alloc (.cells #[.string ⟨#[]⟩] 9)) w.heap.size (.slice (some ⟨w.heap.size, 0, none⟩) 1 1) [[]] := by
    have := World.ownsRow_lit (base := w.heap.size) (e := 9) (size := 1) w #[.string ⟨#[]⟩] 1 (by omega) (by decide) rfl
    simpa [OwnsT] using this
  have hlen : s.data.toList.length = s.size := Array.length_toList
  obtain ⟨inf, i1, i2, i3, i4⟩ := info_str
  go_enter Tryz.func32, Tryz.ntmps32
  go_wp2_with fail
  go_loopw [5, 6] (fun v i wr => ∃ k : Nat, k ≤ s.size ∧ i = .int .i64 k ∧ OwnsT wr w.heap.size v (cutsAt b (s.data.toList.take k)) ∧ Below w.heap.size w wr) (fun _ i _ => s.size - (intOf i).toNat)
  case atStart => exact ⟨0, Nat.zero_le _, rfl, hlit, (Below.refl _ _).alloc (Nat.le_refl _) _⟩
  case round =>
    clear hlit
    obtain ⟨k, hk, rfl, ho, hB⟩ := hrel
    have hzr := hB.size
    have hcl := cutsAt_len b (s.data.toList.take k)
    have hne := cutsAt_some b (s.data.toList.take k)
    have htl : (s.data.toList.take k).length ≤ k := List.length_take_le _ _
    by_cases hlt : k < s.size
    · have hks : (k : Int) < (s.size : Int) := by omega
      have hst : Hid (cutsAt b (s.data.toList.take (k + 1)) = cutStepAt b (cutsAt b (s.data.toList.take k)) s[k]) := by
        show cutsAt b _ = _
        rw [take_snocB s k hlt, cutsAt_snoc]
      generalize hPe : cutsAt b (s.data.toList.take k) = P at *
      have hu := UInt8.toNat_lt s[k]
      have hu2 := UInt8.toNat_lt b
      clear hPe
      by_cases he : s[k] = b
      · have he' : ((s[k].toNat : Int) == (b.toNat : Int)) = true := by rw [he]; simp
        have hst2 : Hid (cutsAt b (s.data.toList.take (k + 1)) = P ++ [[]]) := by show _ = _; rw [hst.out]; unfold cutStepAt; rw [if_pos he]
        clear he
        go_wp2_with (refine wpList_append_own _ rfl (.tmp 19) (.tmp 20) 55 rfl w.heap.size 9 inf (.string ⟨#[]⟩) 1 16 Tryz.underlying55 i1 i2 i3 i4 rfl (by decide) _ _ _ rfl (World.ownsRow.alloc ho _) ⟨wr.heap.size, 0, none⟩ 1 1 [.string ⟨#[]⟩] rfl rfl (by intro q u hq; cases q with | zero => simp at hq; subst hq; simp [Addr.add, go_sem] | succ q => simp at hq) (by simp [Value.oneCell']) (by unfold maxLen; omega) (by omega) (by simp <;> omega) ?_; intro x0 w4 ho0 hg0 _)
        have hB4 : Below w.heap.size w w4 := (hB.alloc (by omega) _).grown hg0 (by simp <;> omega) (by intro k hk; have := (World.ownsRow.lt ho k hk).1; omega)
        go_roundw
        case rel => exact ⟨k + 1, by omega, by go_num, by rw [hst2.out]; simpa [OwnsT, strV] using ho0, hB4⟩
        case measure => simp [intOf]; omega
      · have he' : ((s[k].toNat : Int) == (b.toNat : Int)) = false := by
          rw [beq_eq_false_iff_ne]
          intro h
          exact he (UInt8.toNat_inj.1 (by omega))
        have hst2 : Hid (cutsAt b (s.data.toList.take (k + 1)) = P.set (P.length - 1) (P.getLastD [] ++ [s[k]])) := by show _ = _; rw [hst.out]; unfold cutStepAt; rw [if_neg he, last_set _ hne]
        clear he
        obtain ⟨m, hm⟩ : ∃ m, P.length = m + 1 := ⟨P.length - 1, by have := List.length_pos_iff.2 hne; omega⟩
        rcases ho.2 with ⟨_, hn0⟩ | ⟨g, cap, cur, rfl, hg, hh, _⟩
        · omega
        have ho' : wr.ownsRow w.heap.size 9 1 (.slice (some ⟨g, 0, none⟩) P.length cap) P.length (P.map strV) := ho
        have hla := last_at P hne
        have hll : (P.getLastD []).length ≤ 1048576 := by
          have e : P.getLastD [] ∈ P := List.mem_of_getElem? hla
          have := hcl.2 _ e; omega
        have c0 : wr.cell? ⟨g, m, none⟩ = some (.string ⟨(P.getLastD []).toArray⟩) := by
          rw [ho'.cellAt m (by omega), List.getElem?_map, show m = P.length - 1 by omega, hla]; rfl
        have f0 : wr.frozen? ⟨g, m, none⟩ = false := ho'.frozenAt m
        have hglt : g < wr.heap.size := (ho'.lt g rfl).2
        have hgs := (ho'.stored m (strV (P.getLastD [] ++ [s[k]]))).1.alloc (.cells #[.int .u8 (s[k].toNat : Int)] 5)
        have R : Hid (((wr.setCell ⟨g, m, none⟩ (strV (P.getLastD [] ++ [s[k]]))).alloc (.cells #[.int .u8 (s[k].toNat : Int)] 5)).ownsRow w.heap.size 9 1 (.slice (some ⟨g, 0, none⟩) P.length cap) P.length ((P.map strV).set m (strV (P.getLastD [] ++ [s[k]])))) := hgs
        have e9' : Hid ((P.set m (P.getLastD [] ++ [s[k]])).length = m + 1) := by show _ = _; rw [List.length_set]; exact hm
        have hcv := conv_one_drew wr (s[k].toNat : Int)
        rw [nums_one] at hcv
        have hcat := cat (P.getLastD []) [s[k]]
        have hst3 : Hid (cutsAt b (s.data.toList.take (k + 1)) = P.set m (P.getLastD [] ++ [s[k]])) := by show _ = _; rw [hst2.out, show P.length - 1 = m by omega]
        generalize P.getLastD [] = q at *
        clear ho ho' hh hla hgs hst2 hst
        have hmb : m ≤ 1048576 := by omega
        have hwm : IntKind.i64.wrap (m : Int) = (m : Int) := by simp [IntKind.wrap, IntKind.bits, IntKind.signed]; omega
        rw [hm] at *
        clear hm
        go_wp2_with fail
        go_region
        go_step
        go_wp2_with fail
        go_roundw
        case rel =>
          refine ⟨k + 1, by omega, by go_num, ?_, ?_⟩
          · rw [hst3.out]
            have h9 := World.ownsRow.drew R.out
            rw [← List.map_set] at h9
            unfold OwnsT
            rw [e9'.out]
            exact h9
          · exact ((hB.setCell (p := ⟨g, m, none⟩) hg _).alloc (by simpa [World.setCell] using hzr) _).drew
        case measure => simp [intOf]; omega
    · have e : k = s.size := by omega
      subst e
      have ht : Hid (s.data.toList.take s.size = s.data.toList) := by show _ = _; rw [← hlen, List.take_length]
      go_wp2_with fail
      go_ret
      exact ⟨_, rfl, by rw [ht.out] at ho; exact ho, hB⟩
end Go.Proofs.YtekmjgkjpdhedaaGreatDoor
