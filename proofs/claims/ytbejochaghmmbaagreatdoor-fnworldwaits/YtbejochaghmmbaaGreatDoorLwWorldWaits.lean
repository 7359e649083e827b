/-
  FnWorldWaits answers true for every code: in a drawn world that is ok who waits waits for what is not there. No condition.
-/
import Derived.Test.YtbejochaghmmbaaGreatDoorRexWh
import Derived.Test.YtbejochaghmmbaaGreatDoorSj
import Derived.Test.YtbejochaghmmbaaGreatDoorEFrameN
import Derived.Test.YtbejochaghmmbaaGreatDoorFcFnWorldWaits
namespace Go.Proofs.YtbejochaghmmbaaGreatDoor
open Go.ChangeShapes Go.WideShapes Go.ChangeAt Go.RowKit Go.Joins
set_option maxRecDepth 100000
namespace FnWorldWaits
theorem law (a : Option Addr) (len cap : Nat) (cb : Option (Nat × Obj)) (hc : CodeIn a len cap cb) :
    Con Tryz.prog 6 #[.slice a len cap] (cbHp cb) (Yes cb) := by
  refine Con.of_W (tb := tbE) (args := [.slice a len cap]) Tryz.func6 rfl Tryz.results6 Tryz.ntmps6 (by simp) (Tryz.call6 _) (tm := [(0, .v (.slice a len cap))]) rfl ?_
  refine vc_ok ⟨tbE_ok, _, Tryz.func6, Tryz.results6, Tryz.ntmps6⟩ 400 _ _ _ _ ?_
  conv => whnf
  refine Ext.len Tryz.underlying22 rfl rfl ?_
  conv => whnf
  refine ⟨fun _ => ?_, fun _ => ?_⟩ <;> conv => whnf
  · exact ⟨rfl, Hp.le_refl _⟩
  have ho : Own (cbHp cb) (cbAtoms cb ++ []) := by rw [List.append_nil]; exact cb_own cb
  refine (drawWorldOk_con a len cap cb hc _ [] ho).mono ?_
  rintro r h1 ⟨D, rfl, hd, ho1⟩
  have hw : WIn h1 D := ho1.win fun x hx => List.mem_append_right _ (List.mem_append_left _ hx)
  have hsm := hd.sm
  have hle : (cbHp cb).le h1 := cb_le ho1
  conv => whnf
  refine (iWorldOk_con D hsm hd.why h1 hw).mono ?_
  rintro r h1 ⟨⟨b, rfl, hb⟩, rfl⟩
  conv => whnf
  refine (sWorldOk_con D hsm h1 hw).mono ?_
  rintro r h1 ⟨⟨b', rfl, hb'⟩, rfl⟩
  obtain rfl : b' = b := by rw [Bool.eq_iff_iff, hb, hb']
  conv => whnf
  refine Ext.neqB rfl rfl rfl ?_
  conv => whnf
  refine ⟨fun _ => ?_, fun h3 => absurd h3 (by simp)⟩
  conv => whnf
  refine ⟨fun b0 => ?_, fun b0 => ?_⟩ <;> conv => whnf
  · refine (sWorldOk_con D hsm h1 hw).mono ?_
    rintro r h1 ⟨⟨b, rfl, hb2⟩, rfl⟩
    obtain rfl : b = b' := by rw [Bool.eq_iff_iff, hb2, hb]
    conv => whnf
    refine Ext.eqlB rfl rfl rfl ?_
    conv => whnf
    exact ⟨congrArg Value.bool (by simp), hle⟩
  have hok : WOk D.pure := hb.1 (by simpa using b0)
  clear b0 hb hb'
  obtain ⟨_, V, _, ho⟩ := hok
  have hn : D.runs.length ≤ 1000 := by have := hsm.runs; rw [pure_len] at this; exact this
  have hlenP := pure_len D
  have hr : RowOk h1 (rowR D.rv D.runs) := hw.runs
  refine W.cut [(5, .v (.int .i64 (0 : Nat))), (3, .p 0 0)] [⟨28, D.cells⟩] [] ⟨rfl, rfl, trivial⟩ rfl rfl ⟨_, rfl⟩ ?_
  refine W.loop (α := Nat) (fun i => [(5, .v (.int .i64 (i : Nat))), (3, .p 0 0)]) (fun _ => [⟨28, D.cells⟩]) (fun i h' => i ≤ D.runs.length ∧ h' = h1) (fun i => D.runs.length - i) ?_ 0 h1 ⟨Nat.zero_le _, rfl⟩
  rintro i h5 ⟨hi, rfl⟩ ih
  refine vc_ok ⟨tbE_ok, _, Tryz.func6, Tryz.results6, Tryz.ntmps6⟩ 400 _ _ _ _ ?_
  conv => whnf
  refine ⟨fun h6 => ?_, fun h6 => ?_⟩ <;> conv => whnf
  · have hlt : i < D.runs.length := by simp at h6; omega
    have hltP : i < D.pure.runs.length := by omega
    obtain ⟨g, hra⟩ := row_some hw.runs (by omega)
    have hv : D.rv = .slice (some ⟨g, 0, none⟩) D.runs.length D.rk := by rw [WD.rv, hra]
    refine Ext.index slRun.u slRun.size rfl (by exact hv) rfl i rfl hlt ?_
    conv => whnf
    refine Ext.loadRun rfl hr hv hlt rfl ?_
    conv => whnf
    have ed := pure_get D i hlt hltP
    have hwi : IntKind.i64.wrap ((i : Int) + 1) = ((i + 1 : Nat) : Int) := by rw [wrapN _ (by omega) (by omega)]; omega
    have hin := hw.each i hlt
    have hS := hsm.each _ (pure_mem hlt)
    have hfit := ho.fit i hltP
    rw [ed] at hfit
    generalize hd' : D.runs[i] = y at *
    obtain ⟨d, p⟩ := y
    dsimp only at hS hin ed hfit ⊢
    conv => whnf
    refine ⟨fun b1 => ?_, fun b1 => ?_⟩ <;> conv => whnf
    · rw [hwi]
      exact W.back (ih (i + 1) _ ⟨hlt, rfl⟩ (by omega)) [_] (by exact ⟨rfl, rfl, trivial⟩) rfl rfl
    have h2 : d.st = 2 := by simpa using b1
    have hsl := hfit.sl h2
    have hrb : Eld.runB d.toE = true := by have := hfit.ok; unfold Eld.specRB at this; rw [Bool.and_eq_true] at this; exact this.1
    have hF := runF hrb
    obtain ⟨k, hk⟩ : ∃ pk : Nat, d.pl = pk := ⟨d.pl.toNat, by have := hF.pl.1; omega⟩
    have hkl : k < D.code.length := by have := hfit.pl; have e : D.pure.code = D.code := rfl; rw [e] at this; omega
    have hcr : RowOk h5 (rowO D.cv D.code) := hw.code
    obtain ⟨gc, hca⟩ := row_some hcr (by omega)
    have hcv : D.cv = .slice (some ⟨gc, 0, none⟩) D.code.length D.ck := by rw [WD.cv, hca]
    refine Ext.index slOp.u slOp.size rfl (by exact hcv) rfl k hk hkl ?_
    conv => whnf
    refine Ext.loadOp rfl hcr hcv hkl rfl ?_
    conv => whnf
    refine (iRunFirst_con d p D.code[k].s hS.sh h5 hin).mono ?_
    rintro r h5 ⟨rfl, rfl⟩
    have hth := first_there hrb D.code[k].s
    have hs : stepAt D.pure.code d = D.code[k] := stepAt_get hk hkl
    unfold sleepP at hsl
    rw [hs] at hsl
    have hneg : decide (firstP d.mail D.code[k].s < 0) = true := by
      split at hsl <;> simp only [Bool.and_eq_true] at hsl
      · exact hsl.2
      · exact hsl.2.2
    rw [hneg] at hth
    generalize Eld.sFirst d.toE D.code[k].s = F at hth
    obtain ⟨m, th⟩ := F
    dsimp only at hth ⊢
    subst hth
    conv => whnf
    refine ⟨fun _ => ?_, fun h9 => absurd h9 (by simp)⟩
    conv => whnf
    refine ⟨fun c1 => ?_, fun c1 => ?_⟩ <;> conv => whnf
    · have hk7 : D.code[k].k ≠ 7 := by simpa using c1
      rw [if_neg hk7] at hsl
      simp only [Bool.and_eq_true, beq_iff_eq, decide_eq_true_eq] at hsl
      refine ⟨fun c2 => ?_, fun c2 => absurd hsl.1 (by simpa using c2)⟩
      conv => whnf
      refine ⟨fun c3 => ?_, fun c3 => ?_⟩ <;> conv => whnf
      · have h1 : d.due ≤ D.now := by simpa using c3
        have h2 : D.now < d.due := hsl.2.1
        omega
      rw [hwi]
      exact W.back (ih (i + 1) _ ⟨hlt, rfl⟩ (by omega)) [_, _] (by exact ⟨rfl, rfl, trivial⟩) rfl rfl
    · rw [hwi]
      exact W.back (ih (i + 1) _ ⟨hlt, rfl⟩ (by omega)) [_, _] (by exact ⟨rfl, rfl, trivial⟩) rfl rfl
  · exact ⟨rfl, hle⟩
theorem walk (a0 : Option Addr) (len0 cap0 : Nat) (w : World) (h0 : Eld.Code0 w a0 len0 cap0) : Calls Tryz.prog 6 #[.slice a0 len0 cap0] w fun e w' => e = .returned (.bool true) ∧ Below w.heap.size w w' := by
  obtain ⟨cb, hc, hi⟩ := code_in h0
  exact ((law a0 len0 cap0  cb hc).run w hi).mono fun e w' ⟨v, h', he, hy, hi', hf⟩ => yes_below hi hi' hf he hy

set_option maxRecDepth 20000 in
theorem contract (H : Type) (enc : TypeId × Value → H) (W : World) (base : Nat) (args : Array Value) (ds gs : List (DataW H)) (before : List MemPlace)
    (hval : ∀ (j : Nat) t v, Tryz.f6.params[j]? = some t → args[j]? = some v → Value.okWide Tryz.prog W .any base t v)
    (hW : DataW.Whole enc Tryz.prog Tryz.f6.params.toList Rows.fnWorldWaitsSpec.vars false W args.toList ds gs before) (_hL : laidMetH Tryz.prog Rows.fnWorldWaitsRow.laid W) :
    Calls Tryz.prog 6 args W fun e W' => ∃ v, e = .returned v ∧ Rows.fnWorldWaitsSpec.post enc Tryz.prog Tryz.f6 false true false false W args v W' := by
  have hW' := hW
  obtain ⟨p, q, hA0, hV, rfl, hfz, hnd⟩ := hW
  have hA : DataW.TrodAll enc Tryz.prog W 0 (fun _ => true) true Tryz.f6.params.toList args.toList ds p := hA0
  rw [Tryz.params6] at hA hval
  obtain ⟨v0, vs0, d0, ds0, p0, q0, hargs, rfl, rfl, h0, r0⟩ := trodAll_cons hA
  obtain ⟨rfl, rfl, rfl⟩ := trodAll_nil r0
  obtain rfl : args = #[v0] := by cases args; simp_all
  obtain ⟨rfl, rfl⟩ := trodVars_none hV
  obtain ⟨a0, len0, cap0, rfl⟩ := okWide_slice Tryz.underlying22 (hval 0 22 v0 rfl rfl)
  have k0 := h0
  have lt0 : ∀ x ∈ p0, x.block < W.heap.size := by obtain ⟨m, hm⟩ := k0; exact DataW.trod_lt m _ _ _ hm
  have w0 : Eld.Code0 W a0 len0 cap0 := by
    obtain ⟨fuel, hf⟩ := h0
    rcases open_ints Tryz.underlying22 Tryz.underlying5 (by kernel_rfl) hf with ⟨hcs, _⟩ | ⟨x, l, c, zs, hcs, _, hl, hm, hz, _, hcell, hwz⟩
    · simp [Value.cells] at hcs
      obtain ⟨rfl, rfl, rfl⟩ := hcs
      exact Eld.code_of_row (zs := []) (.inl ⟨rfl, rfl, rfl, rfl⟩)
    · simp [Value.cells] at hcs
      obtain ⟨rfl, rfl, rfl⟩ := hcs
      exact Eld.code_of_row (zs := zs) (.inr ⟨_, rfl, hl, hm, by simpa using hz, hcell, hwz⟩)
  clear hA0
  refine (walk a0 len0 cap0 W w0).mono fun e W' ⟨he, bel⟩ => ?_
  subst he
  exact ⟨_, rfl, _, _, _, [], _, [], hW', trodAll_mk1 (shut_bool Tryz.underlying4 _), (trodAll_cons_mk (Below.trod laidOut (by kernel_rfl) (of_decide_eq_true (by kernel_rfl)) k0 bel lt0) trodAll_mk0), rfl, bel.frame _, fun h => by cases h⟩
theorem laid_met (os : Os) : laidMet Tryz.prog Rows.fnWorldWaitsRow.laid ((Eld.putAll (World.settled Tryz.prog os).heap.size (World.holding Tryz.prog os ⟨Eld.errBlocks, #[], []⟩)).forCall (fun _ _ => 0) ⟨#[], #[.slice none 0 0], []⟩).memory :=
  laidMet_of_run' 10 (by kernel_rfl) (by kernel_rfl)
theorem reads (os : Os) {H : Type} (enc : TypeId × Value → H) : ∃ places, DataW.whole enc Tryz.prog ((Eld.putAll (World.settled Tryz.prog os).heap.size (World.holding Tryz.prog os ⟨Eld.errBlocks, #[], []⟩)).forCall (fun _ _ => 0) ⟨#[], #[.slice none 0 0], []⟩).memory Tryz.f6.params.toList Rows.fnWorldWaitsSpec.vars false #[.slice none 0 0].toList 8 = some ([.nil], [], places) :=
  ⟨[], by kernel_rfl⟩
set_option maxRecDepth 100000 in
theorem lifted (os : Os) (started : os.Started) (H : Type) (enc : TypeId × Value → H) (F : Stop.Interp) :
    ReturnsInHanded {} Tryz.checked os 6 .any ((OpenSpec.ofChange Rows.fnWorldWaitsSpec).preRow enc Tryz.prog Tryz.f6 Rows.fnWorldWaitsRow.domain false Rows.fnWorldWaitsRow.laid) (((OpenSpec.ofChange Rows.fnWorldWaitsSpec).at F).post enc Tryz.prog Tryz.f6 false true false false) := by
  obtain ⟨places, hx⟩ := reads os enc
  refine returnsInHanded_of_row (C := Tryz.checked) (s := OpenSpec.ofChange Rows.fnWorldWaitsSpec) own started (by kernel_rfl) Tryz.func6
    (witness_row_atRef (enc := enc) (C := Tryz.checked) false (Eld.putAll (World.settled Tryz.prog os).heap.size (World.holding Tryz.prog os ⟨Eld.errBlocks, #[], []⟩)) #[.slice none 0 0] rfl (by kernel_rfl) (by kernel_rfl) (by kernel_rfl)
      (OpenSpec.preRow_of_cond 8 hx (by kernel_rfl) (fun k hk => by cases hk) (by kernel_rfl) (laid_met os))) ?_
  intro W base args ds gs before hval hW _ _ _ hL _ _
  exact contract H enc W base args ds gs before hval hW hL
set_option maxRecDepth 100000 in
theorem said : Rows.FnWorldWaitsSaid :=
  OpenClaim.holds_of_cond 6 Tryz.f6 rfl rfl rfl rfl rfl rfl rfl ⟨rfl, rfl, rfl, rfl, rfl⟩ rfl rfl rfl rfl rfl (by kernel_rfl) Tryz.func6 FcFnWorldWaits.closed
    (of_decide_eq_true (by kernel_rfl)) (by unfold Func.isWrapper; first | (rw [if_pos (by decide +kernel)]; kernel_rfl) | (rw [if_neg (by decide +kernel)]; exact ⟨rfl, rfl⟩))
    (fun os started H enc _ F => by rw [OpenClaim.pre_eq_preRow]; exact lifted os started H enc F)
theorem plain (f : FuncId) (fn : Func) (hf : Tryz.pinned.checked.prog.funcNamed Rows.fnWorldWaitsRow.func = some f) (hfn : Tryz.pinned.checked.prog.funcs[f]? = some fn) :
    true = Tryz.pinned.checked.prog.looks [] ∧ ∀ (j : Nat) t, fn.params[j]? = some t → Tryz.pinned.checked.prog.wantsStandIn t = false := by
  obtain rfl : f = 6 := Option.some.inj ((show Tryz.prog.funcNamed Rows.fnWorldWaitsRow.func = some 6 by kernel_rfl).symm.trans hf) |>.symm
  obtain rfl : fn = Tryz.f6 := (Option.some.inj (Tryz.func6.symm.trans hfn)).symm
  refine ⟨by kernel_rfl, fun j t ht => ?_⟩
  rw [Tryz.params6] at ht
  obtain rfl : t = 22 := by simpa using Array.mem_of_getElem? ht
  exact (show Tryz.prog.wantsStandIn 22 = false by kernel_rfl)
theorem card : Rows.FnWorldWaitsCardSaid :=
  Claim7.holds_tied_plain_at .later [] _ _ _ _ said (fun _ h => by cases h) (by kernel_rfl) (fun _ h => by cases h) fnWorldWaits_row_tie rfl ⟨rfl, rfl⟩ (by kernel_rfl) rfl plain (by kernel_rfl)
end FnWorldWaits

/-- the given statement -/
theorem fnWorldWaits_holds : Rows.FnWorldWaitsCardSaid := FnWorldWaits.card
#print axioms fnWorldWaits_holds
end Go.Proofs.YtbejochaghmmbaaGreatDoor
