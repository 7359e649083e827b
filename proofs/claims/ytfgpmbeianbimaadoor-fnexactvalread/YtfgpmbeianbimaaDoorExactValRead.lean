/-
  For every text, impl.ValRead answers as the specification's ValRead does. The tables and errors that strconv reads are as their initialisers lay them.
-/
import Derived.Test.YtfgpmbeianbimaaDoorSpecRead
import Derived.Test.YtfgpmbeianbimaaDoorFrameErrs
namespace Go.Proofs.YtfgpmbeianbimaaDoor
open Go.ChangeShapes Go.WideShapes Go.ChangeAt Go.RowKit Go.Joins
namespace ExactValRead
set_option maxHeartbeats 400000 in
theorem eqVal_same (k n : Int) (w : World) :
    Calls Tryd.prog 18 #[.agg #[.int .i64 k, .int .i64 n], .agg #[.int .i64 k, .int .i64 n]] w fun e w' => e = .returned (.bool true) ∧ Below w.heap.size w w' := by
  go_enter Tryd.func18, Tryd.ntmps18
  go_wp2_with fail
  go_ret
  exact ⟨rfl, ((Below.refl _ _).alloc (Nat.le_refl _) _).alloc (by simp) _⟩
set_option maxHeartbeats 1000000 in
theorem walk_key (t : List UInt8) (k n : Int) (b : Bool) (w : World) (hl : t.length ≤ 1048576) (hT : Tab w) (hE : Errs w)
    (C1 : Hid (∀ w, Calls Tryd.prog 15 #[.string ⟨t.toArray⟩] w fun e w' => e = .returned (.tuple #[.agg #[.int .i64 k, .int .i64 n], .bool b]) ∧ Below w.heap.size w w'))
    (C2 : Hid (∀ w, Tab w → Errs w → Calls Tryd.prog 12 #[.string ⟨t.toArray⟩] w fun e w' => e = .returned (.tuple #[.agg #[.int .i64 k, .int .i64 n], .bool b]) ∧ Below w.heap.size w w')) :
    Calls Tryd.prog 8 #[.string ⟨t.toArray⟩] w fun e w' => e = .returned (.bool true) ∧ Below w.heap.size w w' := by
  have g0 : ¬ (1048576 : Int) < (t.length : Int) := by omega
  go_enter Tryd.func8, Tryd.ntmps8
  go_wp2_with fail
  refine (C1.out _).mono ?_
  rintro e w1 ⟨rfl, hb1⟩
  have hz1 := hb1.size
  have hT1 := (hT.below hb1).below ((Below.refl _ _).alloc (Nat.le_refl _) (.cells #[.int .i64 k, .int .i64 n] 24))
  have hE1 := (hE.below hb1).below ((Below.refl _ _).alloc (Nat.le_refl _) (.cells #[.int .i64 k, .int .i64 n] 24))
  go_wp2_with fail
  refine (C2.out _ hT1 hE1).mono ?_
  rintro e w2 ⟨rfl, hb2⟩
  obtain ⟨hcw2, hfw2⟩ := bcell hb2
  have hzw2 := hb2.size
  try simp at hzw2
  have x0w2 : w2.cell? ⟨w1.heap.size, 0, none⟩ = some (.int .i64 k) := by rw [hcw2 _ _ (by (try simp) <;> omega)]; first | assumption | (rw [World.cell?_alloc_past _ _ _ (by omega)]; assumption) | (rw [World.cell?_alloc_past _ _ _ (by (try simp) <;> omega), World.cell?_alloc_past _ _ _ (by omega)]; assumption) | (simp [go_sem]; done)
  have y0w2 : w2.cell? ⟨w1.heap.size, 1, none⟩ = some (.int .i64 n) := by rw [hcw2 _ _ (by (try simp) <;> omega)]; first | assumption | (rw [World.cell?_alloc_past _ _ _ (by omega)]; assumption) | (rw [World.cell?_alloc_past _ _ _ (by (try simp) <;> omega), World.cell?_alloc_past _ _ _ (by omega)]; assumption) | (simp [go_sem]; done)
  have l0w2 : w1.heap.size < w2.heap.size := by omega
  clear hcw2 hfw2
  have hB2 : Below w.heap.size w w2 := (hb1.alloc hz1 _).trans (hb2.mono (by (try simp) <;> omega))
  clear hb1 hb2 hT1 hE1
  go_wp2_with fail
  refine (eqVal_same _ _ _).mono ?_
  rintro e w3 ⟨rfl, hb3⟩
  go_wp2_with fail
  go_ret
  exact ⟨by simp, (hB2.alloc (by omega) _).trans (hb3.mono (by (try simp) <;> omega))⟩
set_option maxHeartbeats 400000 in
theorem walk (s : ByteArray) (w : World) (hT : Tab w) (hE : Errs w) :
    Calls Tryd.prog 8 #[.string s] w fun e w' => e = .returned (.bool true) ∧ Below w.heap.size w w' := by
  obtain ⟨t, rfl⟩ : ∃ t : List UInt8, s = ⟨t.toArray⟩ := ⟨s.data.toList, by apply ByteArray.ext; simp⟩
  by_cases hl : t.length ≤ 1048576
  · by_cases h : ∃ k n, okB k n = true ∧ t = txt k n
    · obtain ⟨k, n, hok, rfl⟩ := h
      exact walk_key (txt k n) k n true w hl hT hE (fun w => specRead_yes k n w hok) (fun w hT hE => implRead_yes k n w hok hT hE)
    · have h' : ∀ k n, okB k n = true → t ≠ txt k n := fun k n hok ht => h ⟨k, n, hok, ht⟩
      exact walk_key t 0 0 false w hl hT hE (fun w => specRead_no t w h') (fun w hT hE => implRead_no t w hl h' hT hE)
  · have g0 : (1048576 : Int) < (t.length : Int) := by omega
    go_enter Tryd.func8, Tryd.ntmps8
    go_wp2_with fail
    go_ret
    exact ⟨rfl, Below.refl _ _⟩

theorem contract (H : Type) (enc : TypeId × Value → H) (W : World) (base : Nat) (args : Array Value) (ds gs : List (DataW H)) (before : List MemPlace)
    (hval : ∀ (j : Nat) t v, Tryd.f8.params[j]? = some t → args[j]? = some v → Value.okWide Tryd.prog W .any base t v)
    (hW : DataW.Whole enc Tryd.prog Tryd.f8.params.toList Rows.fnExactValReadSpec.vars false W args.toList ds gs before) (hL : laidMetH Tryd.prog Rows.fnExactValReadRow.laid W) :
    Calls Tryd.prog 8 args W fun e W' => ∃ v, e = .returned v ∧ Rows.fnExactValReadSpec.post enc Tryd.prog Tryd.f8 false true false false W args v W' := by
  have hT : Tab W := tab_of hL (by kernel_rfl)
  have hE : Errs W := errs_of hL (by kernel_rfl) (by kernel_rfl)
  have hW' := hW
  obtain ⟨p, q, hA0, hV, rfl, hfz, hnd⟩ := hW
  have hA : DataW.TrodAll enc Tryd.prog W 0 (fun _ => true) true Tryd.f8.params.toList args.toList ds p := hA0
  rw [Tryd.params8] at hA hval
  obtain ⟨v0, vs0, d0, ds0, p0, q0, hargs, rfl, rfl, h0, r0⟩ := trodAll_cons hA
  obtain ⟨rfl, rfl, rfl⟩ := trodAll_nil r0
  obtain rfl : args = #[v0] := by cases args; simp_all
  obtain ⟨rfl, rfl⟩ := trodVars_none hV
  obtain ⟨s0, rfl, rfl, rfl, ws0⟩ := Go.ChangeMaps.open_string Tryd.underlying9 (hval 0 9 v0 rfl rfl) h0
  clear hA0
  simp only [List.append_nil] at hW'
  refine (walk s0 W hT hE).mono fun e W' ⟨he, bel⟩ => ?_
  subst he
  exact ⟨_, rfl, _, _, _, [], _, [], hW', trodAll_mk1 (shut_bool Tryd.underlying4 _), (trodAll_cons_mk (Go.ChangeMaps.shut_string Tryd.underlying9 ws0) trodAll_mk0), rfl, bel.frame _, fun h => by cases h⟩
theorem laid_met (os : Os) : laidMet Tryd.prog Rows.fnExactValReadRow.laid ((putAll (World.settled Tryd.prog os).heap.size (World.holding Tryd.prog os ⟨errBlocks, #[], []⟩)).forCall (fun _ _ => 0) ⟨#[], #[.string ⟨#[]⟩], []⟩).memory :=
  laidMet_of_run' 10 (by kernel_rfl) (by kernel_rfl)
theorem reads (os : Os) {H : Type} (enc : TypeId × Value → H) : ∃ places, DataW.whole enc Tryd.prog ((putAll (World.settled Tryd.prog os).heap.size (World.holding Tryd.prog os ⟨errBlocks, #[], []⟩)).forCall (fun _ _ => 0) ⟨#[], #[.string ⟨#[]⟩], []⟩).memory Tryd.f8.params.toList Rows.fnExactValReadSpec.vars false #[.string ⟨#[]⟩].toList 8 = some ([.lit (.string [])], [], places) :=
  ⟨[], by kernel_rfl⟩
set_option maxRecDepth 100000 in
theorem lifted (os : Os) (started : os.Started) (H : Type) (enc : TypeId × Value → H) (F : Stop.Interp) :
    ReturnsInHanded {} Tryd.checked os 8 .any ((OpenSpec.ofChange Rows.fnExactValReadSpec).preRow enc Tryd.prog Tryd.f8 Rows.fnExactValReadRow.domain false Rows.fnExactValReadRow.laid) (((OpenSpec.ofChange Rows.fnExactValReadSpec).at F).post enc Tryd.prog Tryd.f8 false true false false) := by
  obtain ⟨places, hx⟩ := reads os enc
  refine returnsInHanded_of_row (C := Tryd.checked) (s := OpenSpec.ofChange Rows.fnExactValReadSpec) own started (by kernel_rfl) Tryd.func8
    (witness_row_atRef (enc := enc) (C := Tryd.checked) false (putAll (World.settled Tryd.prog os).heap.size (World.holding Tryd.prog os ⟨errBlocks, #[], []⟩)) #[.string ⟨#[]⟩] rfl (by kernel_rfl) (by kernel_rfl) (by kernel_rfl)
      (OpenSpec.preRow_of_cond 8 hx (by kernel_rfl) (fun k hk => by cases hk) (by kernel_rfl) (laid_met os))) ?_
  intro W base args ds gs before hval hW _ _ _ hL _ _
  exact contract H enc W base args ds gs before hval hW hL
theorem said : Rows.FnExactValReadSaid :=
  OpenClaim.holds_of_cond 8 Tryd.f8 rfl rfl rfl rfl rfl rfl rfl ⟨rfl, rfl, rfl, rfl, rfl⟩ rfl rfl rfl rfl rfl (by kernel_rfl) Tryd.func8 (by kernel_rfl)
    (of_decide_eq_true (by kernel_rfl)) (by unfold Func.isWrapper; first | (rw [if_pos (by decide +kernel)]; kernel_rfl) | (rw [if_neg (by decide +kernel)]; exact ⟨rfl, rfl⟩))
    (fun os started H enc _ F => by rw [OpenClaim.pre_eq_preRow]; exact lifted os started H enc F)
theorem plain (f : FuncId) (fn : Func) (hf : Tryd.pinned.checked.prog.funcNamed Rows.fnExactValReadRow.func = some f) (hfn : Tryd.pinned.checked.prog.funcs[f]? = some fn) :
    true = Tryd.pinned.checked.prog.looks [] ∧ ∀ (j : Nat) t, fn.params[j]? = some t → Tryd.pinned.checked.prog.wantsStandIn t = false := by
  obtain rfl : f = 8 := Option.some.inj ((show Tryd.prog.funcNamed Rows.fnExactValReadRow.func = some 8 by kernel_rfl).symm.trans hf) |>.symm
  obtain rfl : fn = Tryd.f8 := (Option.some.inj (Tryd.func8.symm.trans hfn)).symm
  refine ⟨by kernel_rfl, fun j t ht => ?_⟩
  rw [Tryd.params8] at ht
  obtain rfl : t = 9 := by simpa using Array.mem_of_getElem? ht
  exact (show Tryd.prog.wantsStandIn 9 = false by kernel_rfl)
theorem card : Rows.FnExactValReadCardSaid :=
  Claim7.holds_tied_plain_at .later [] _ _ _ _ said (fun _ h => by cases h) (by kernel_rfl) (fun _ h => by cases h) fnExactValRead_row_tie rfl ⟨rfl, rfl⟩ (by kernel_rfl) rfl plain (by kernel_rfl)
end ExactValRead

/-- the given statement -/
theorem exactValRead_holds : Rows.FnExactValReadCardSaid := ExactValRead.card
#print axioms exactValRead_holds
end Go.Proofs.YtfgpmbeianbimaaDoor
