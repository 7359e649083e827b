/-
  For every text, impl.OpRead answers as the specification's OpRead does. The tables and errors that strconv and utf8 read are as their initialisers lay them.
-/
import Derived.Test.YtcpkfganjndlhaaGreatDoorOpReadUse
import Derived.Test.YtcpkfganjndlhaaGreatDoorOpSpecText
import Derived.Test.YtcpkfganjndlhaaGreatDoorOpImplText
import Derived.Test.YtcpkfganjndlhaaGreatDoorFrameR
import Derived.Test.YtcpkfganjndlhaaGreatDoorFcFnExactOpRead
namespace Go.Proofs.YtcpkfganjndlhaaGreatDoor
open Go.ChangeShapes Go.WideShapes Go.ChangeAt Go.RowKit Go.Joins
namespace ExactOpRead
set_option maxHeartbeats 1000000 in
theorem eqVal_same (a b : Int) (w : World) :
    Calls Tryz.prog 31 #[.agg #[.int .i64 a, .int .i64 b], .agg #[.int .i64 a, .int .i64 b]] w fun e w' => e = .returned (.bool true) ∧ Below w.heap.size w w' := by
  go_enter Tryz.func31, Tryz.ntmps31
  go_wp2_with fail
  go_ret
  exact ⟨rfl, ((Below.refl _ _).alloc (Nat.le_refl _) _).alloc (by simp) _⟩
set_option maxHeartbeats 1000000 in
theorem eqOp_same (k r s t a b : Int) (w : World) :
    Calls Tryz.prog 14 #[.agg #[.int .i64 k, .int .i64 r, .int .i64 s, .int .i64 t, .int .i64 a, .int .i64 b], .agg #[.int .i64 k, .int .i64 r, .int .i64 s, .int .i64 t, .int .i64 a, .int .i64 b]] w fun e w' => e = .returned (.bool true) ∧ Below w.heap.size w w' := by
  go_enter Tryz.func14, Tryz.ntmps14
  go_wp2_with fail
  refine (eqVal_same _ _ _).mono ?_
  rintro e w1 ⟨rfl, hb1⟩
  go_wp2_with fail
  go_ret
  exact ⟨rfl, (((Below.refl _ _).alloc (Nat.le_refl _) _).alloc (by simp) _).trans (hb1.mono (by simp; try omega))⟩
set_option maxHeartbeats 2000000 in
theorem walk_key (x : List UInt8) (k r s t a b : Int) (ok : Bool) (h : Hid (ReadIs x k r s t a b ok)) (w : World) (hl : x.length ≤ 1048576) (hT : Tab w) (hE : Errs w) (hM : Max w) :
    Calls Tryz.prog 6 #[.string ⟨x.toArray⟩] w fun e w' => e = .returned (.bool true) ∧ Below w.heap.size w w' := by
  have g0 : ¬ (1048576 : Int) < (x.length : Int) := by omega
  go_enter Tryz.func6, Tryz.ntmps6
  go_wp2_with fail
  refine (specRead_of h.out _ hl).mono ?_
  rintro e w1 ⟨rfl, hb1⟩
  have hz1 := hb1.size
  replace hT := (hT.below hb1).below ((Below.refl _ _).alloc (Nat.le_refl _) (.cells #[.int .i64 k, .int .i64 r, .int .i64 s, .int .i64 t, .int .i64 a, .int .i64 b] 26))
  replace hE := (hE.below hb1).below ((Below.refl _ _).alloc (Nat.le_refl _) (.cells #[.int .i64 k, .int .i64 r, .int .i64 s, .int .i64 t, .int .i64 a, .int .i64 b] 26))
  replace hM := (hM.below hb1).below ((Below.refl _ _).alloc (Nat.le_refl _) (.cells #[.int .i64 k, .int .i64 r, .int .i64 s, .int .i64 t, .int .i64 a, .int .i64 b] 26))
  go_wp2_with fail
  refine (implRead_of h.out _ hT hE hM).mono ?_
  rintro e w2 ⟨rfl, hb2⟩
  obtain ⟨hc2, hf2⟩ := bcell hb2
  have hz2 := hb2.size
  try simp at hz2
  have xp0w2 : w2.cell? ⟨w1.heap.size, 0, none⟩ = some (.int .i64 k) := by rw [hc2 _ _ (by (try simp) <;> omega)]; first | assumption | (rw [World.cell?_alloc_past _ _ _ (by omega)]; assumption) | (rw [World.cell?_alloc_past _ _ _ (by (try simp) <;> omega), World.cell?_alloc_past _ _ _ (by omega)]; assumption) | (simp [go_sem]; done)
  have xp1w2 : w2.cell? ⟨w1.heap.size, 1, none⟩ = some (.int .i64 r) := by rw [hc2 _ _ (by (try simp) <;> omega)]; first | assumption | (rw [World.cell?_alloc_past _ _ _ (by omega)]; assumption) | (rw [World.cell?_alloc_past _ _ _ (by (try simp) <;> omega), World.cell?_alloc_past _ _ _ (by omega)]; assumption) | (simp [go_sem]; done)
  have xp2w2 : w2.cell? ⟨w1.heap.size, 2, none⟩ = some (.int .i64 s) := by rw [hc2 _ _ (by (try simp) <;> omega)]; first | assumption | (rw [World.cell?_alloc_past _ _ _ (by omega)]; assumption) | (rw [World.cell?_alloc_past _ _ _ (by (try simp) <;> omega), World.cell?_alloc_past _ _ _ (by omega)]; assumption) | (simp [go_sem]; done)
  have xp3w2 : w2.cell? ⟨w1.heap.size, 3, none⟩ = some (.int .i64 t) := by rw [hc2 _ _ (by (try simp) <;> omega)]; first | assumption | (rw [World.cell?_alloc_past _ _ _ (by omega)]; assumption) | (rw [World.cell?_alloc_past _ _ _ (by (try simp) <;> omega), World.cell?_alloc_past _ _ _ (by omega)]; assumption) | (simp [go_sem]; done)
  have xp4w2 : w2.cell? ⟨w1.heap.size, 4, none⟩ = some (.int .i64 a) := by rw [hc2 _ _ (by (try simp) <;> omega)]; first | assumption | (rw [World.cell?_alloc_past _ _ _ (by omega)]; assumption) | (rw [World.cell?_alloc_past _ _ _ (by (try simp) <;> omega), World.cell?_alloc_past _ _ _ (by omega)]; assumption) | (simp [go_sem]; done)
  have xp5w2 : w2.cell? ⟨w1.heap.size, 5, none⟩ = some (.int .i64 b) := by rw [hc2 _ _ (by (try simp) <;> omega)]; first | assumption | (rw [World.cell?_alloc_past _ _ _ (by omega)]; assumption) | (rw [World.cell?_alloc_past _ _ _ (by (try simp) <;> omega), World.cell?_alloc_past _ _ _ (by omega)]; assumption) | (simp [go_sem]; done)
  have lpw2 : w1.heap.size < w2.heap.size := by omega
  clear hc2 hf2
  have hB2 : Below w.heap.size w w2 := (hb1.alloc hz1 _).trans (hb2.mono (by (try simp) <;> omega))
  clear hb1 hb2 hT hE hM
  go_wp2_with fail
  refine (eqOp_same _ _ _ _ _ _ _).mono ?_
  rintro e w3 ⟨rfl, hb3⟩
  go_wp2_with fail
  go_ret
  exact ⟨by simp, (hB2.alloc (by omega) _).trans (hb3.mono (by (try simp) <;> omega))⟩
set_option maxHeartbeats 400000 in
theorem walk (s : ByteArray) (w : World) (hT : Tab w) (hE : Errs w) (hM : Max w) :
    Calls Tryz.prog 6 #[.string s] w fun e w' => e = .returned (.bool true) ∧ Below w.heap.size w w' := by
  obtain ⟨x, rfl⟩ : ∃ x : List UInt8, s = ⟨x.toArray⟩ := ⟨s.data.toList, by apply ByteArray.ext; simp⟩
  by_cases hl : x.length ≤ 1048576
  · obtain ⟨k, r, s, t, a, b, ok, h⟩ := read_some x
    exact walk_key x k r s t a b ok h w hl hT hE hM
  · have g0 : (1048576 : Int) < (x.length : Int) := by omega
    go_enter Tryz.func6, Tryz.ntmps6
    go_wp2_with fail
    go_ret
    exact ⟨rfl, Below.refl _ _⟩

set_option maxRecDepth 20000 in
theorem contract (H : Type) (enc : TypeId × Value → H) (W : World) (base : Nat) (args : Array Value) (ds gs : List (DataW H)) (before : List MemPlace)
    (hval : ∀ (j : Nat) t v, Tryz.f6.params[j]? = some t → args[j]? = some v → Value.okWide Tryz.prog W .any base t v)
    (hW : DataW.Whole enc Tryz.prog Tryz.f6.params.toList Rows.fnExactOpReadSpec.vars false W args.toList ds gs before) (hL : laidMetH Tryz.prog Rows.fnExactOpReadRow.laid W) (hO : W.ShapedOpen Tryz.prog) :
    Calls Tryz.prog 6 args W fun e W' => ∃ v, e = .returned v ∧ Rows.fnExactOpReadSpec.post enc Tryz.prog Tryz.f6 false true false false W args v W' := by
  have hT : Tab W := tab_of hL (by kernel_rfl)
  have hE : Errs W := errs_of hL (by kernel_rfl) (by kernel_rfl)
  have hM : Max W := laysSplit.s1_3 W hO
  have hW' := hW
  obtain ⟨p, q, hA0, hV, rfl, hfz, hnd⟩ := hW
  have hA : DataW.TrodAll enc Tryz.prog W 0 (fun _ => true) true Tryz.f6.params.toList args.toList ds p := hA0
  rw [Tryz.params6] at hA hval
  obtain ⟨v0, vs0, d0, ds0, p0, q0, hargs, rfl, rfl, h0, r0⟩ := trodAll_cons hA
  obtain ⟨rfl, rfl, rfl⟩ := trodAll_nil r0
  obtain rfl : args = #[v0] := by cases args; simp_all
  obtain ⟨rfl, rfl⟩ := trodVars_none hV
  obtain ⟨s0, rfl, rfl, rfl, ws0⟩ := Go.ChangeMaps.open_string Tryz.underlying9 (hval 0 9 v0 rfl rfl) h0
  clear hA0
  simp only [List.append_nil] at hW'
  refine (walk s0 W hT hE hM).mono fun e W' ⟨he, bel⟩ => ?_
  subst he
  exact ⟨_, rfl, _, _, _, [], _, [], hW', trodAll_mk1 (shut_bool Tryz.underlying4 _), (trodAll_cons_mk (Go.ChangeMaps.shut_string Tryz.underlying9 ws0) trodAll_mk0), rfl, bel.frame _, fun h => by cases h⟩
theorem laid_met (os : Os) : laidMet Tryz.prog Rows.fnExactOpReadRow.laid ((putMore (World.settled Tryz.prog os).heap.size (World.holding Tryz.prog os ⟨errBlocks, #[], []⟩)).forCall (fun _ _ => 0) ⟨#[], #[.string ⟨#[]⟩], []⟩).memory :=
  laidMet_of_run' 10 (by kernel_rfl) (by kernel_rfl)
theorem reads (os : Os) {H : Type} (enc : TypeId × Value → H) : ∃ places, DataW.whole enc Tryz.prog ((putMore (World.settled Tryz.prog os).heap.size (World.holding Tryz.prog os ⟨errBlocks, #[], []⟩)).forCall (fun _ _ => 0) ⟨#[], #[.string ⟨#[]⟩], []⟩).memory Tryz.f6.params.toList Rows.fnExactOpReadSpec.vars false #[.string ⟨#[]⟩].toList 8 = some ([.lit (.string [])], [], places) :=
  ⟨[], by kernel_rfl⟩
set_option maxRecDepth 100000 in
theorem lifted (os : Os) (started : os.Started) (H : Type) (enc : TypeId × Value → H) (F : Stop.Interp) :
    ReturnsInHanded {} Tryz.checked os 6 .any ((OpenSpec.ofChange Rows.fnExactOpReadSpec).preRow enc Tryz.prog Tryz.f6 Rows.fnExactOpReadRow.domain false Rows.fnExactOpReadRow.laid) (((OpenSpec.ofChange Rows.fnExactOpReadSpec).at F).post enc Tryz.prog Tryz.f6 false true false false) := by
  obtain ⟨places, hx⟩ := reads os enc
  refine returnsInHanded_of_row (C := Tryz.checked) (s := OpenSpec.ofChange Rows.fnExactOpReadSpec) own started (by kernel_rfl) Tryz.func6
    (witness_row_atRef (enc := enc) (C := Tryz.checked) false (putMore (World.settled Tryz.prog os).heap.size (World.holding Tryz.prog os ⟨errBlocks, #[], []⟩)) #[.string ⟨#[]⟩] rfl (by kernel_rfl) (by kernel_rfl) (by kernel_rfl)
      (OpenSpec.preRow_of_cond 8 hx (by kernel_rfl) (fun k hk => by cases hk) (by kernel_rfl) (laid_met os))) ?_
  intro W base args ds gs before hval hW _ _ _ hL hO _
  exact contract H enc W base args ds gs before hval hW hL hO
set_option maxRecDepth 100000 in
theorem said : Rows.FnExactOpReadSaid :=
  OpenClaim.holds_of_cond 6 Tryz.f6 rfl rfl rfl rfl rfl rfl rfl ⟨rfl, rfl, rfl, rfl, rfl⟩ rfl rfl rfl rfl rfl (by kernel_rfl) Tryz.func6 FcFnExactOpRead.closed
    (of_decide_eq_true (by kernel_rfl)) (by unfold Func.isWrapper; first | (rw [if_pos (by decide +kernel)]; kernel_rfl) | (rw [if_neg (by decide +kernel)]; exact ⟨rfl, rfl⟩))
    (fun os started H enc _ F => by rw [OpenClaim.pre_eq_preRow]; exact lifted os started H enc F)
theorem plain (f : FuncId) (fn : Func) (hf : Tryz.pinned.checked.prog.funcNamed Rows.fnExactOpReadRow.func = some f) (hfn : Tryz.pinned.checked.prog.funcs[f]? = some fn) :
    true = Tryz.pinned.checked.prog.looks [] ∧ ∀ (j : Nat) t, fn.params[j]? = some t → Tryz.pinned.checked.prog.wantsStandIn t = false := by
  obtain rfl : f = 6 := Option.some.inj ((show Tryz.prog.funcNamed Rows.fnExactOpReadRow.func = some 6 by kernel_rfl).symm.trans hf) |>.symm
  obtain rfl : fn = Tryz.f6 := (Option.some.inj (Tryz.func6.symm.trans hfn)).symm
  refine ⟨by kernel_rfl, fun j t ht => ?_⟩
  rw [Tryz.params6] at ht
  obtain rfl : t = 9 := by simpa using Array.mem_of_getElem? ht
  exact (show Tryz.prog.wantsStandIn 9 = false by kernel_rfl)
theorem card : Rows.FnExactOpReadCardSaid :=
  Claim7.holds_tied_plain_at .later [] _ _ _ _ said (fun _ h => by cases h) (by kernel_rfl) (fun _ h => by cases h) fnExactOpRead_row_tie rfl ⟨rfl, rfl⟩ (by kernel_rfl) rfl plain (by kernel_rfl)
end ExactOpRead

/-- the given statement -/
theorem exactOpRead_holds : Rows.FnExactOpReadCardSaid := ExactOpRead.card
#print axioms exactOpRead_holds
end Go.Proofs.YtcpkfganjndlhaaGreatDoor
