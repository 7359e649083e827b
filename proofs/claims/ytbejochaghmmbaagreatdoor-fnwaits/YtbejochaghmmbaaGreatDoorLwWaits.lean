/-
  FnWaits answers true for every code: what was sent in a drawn world was taken, was lost, or waits. No condition.
-/
import Derived.Test.YtbejochaghmmbaaGreatDoorRexWi
import Derived.Test.YtbejochaghmmbaaGreatDoorSj
import Derived.Test.YtbejochaghmmbaaGreatDoorEFrameN
import Derived.Test.YtbejochaghmmbaaGreatDoorFcFnWaits
namespace Go.Proofs.YtbejochaghmmbaaGreatDoor
open Go.ChangeShapes Go.WideShapes Go.ChangeAt Go.RowKit Go.Joins
set_option maxRecDepth 100000
namespace FnWaits
theorem law (a : Option Addr) (len cap : Nat) (cb : Option (Nat × Obj)) (hc : CodeIn a len cap cb) :
    Con Tryz.prog 4 #[.slice a len cap] (cbHp cb) (Yes cb) := by
  refine Con.of_W (tb := tbE) (args := [.slice a len cap]) Tryz.func4 rfl Tryz.results4 Tryz.ntmps4 (by simp) (Tryz.call4 _) (tm := [(0, .v (.slice a len cap))]) rfl ?_
  refine vc_ok ⟨tbE_ok, _, Tryz.func4, Tryz.results4, Tryz.ntmps4⟩ 400 _ _ _ _ ?_
  conv => whnf
  refine Ext.len Tryz.underlying22 rfl rfl ?_
  conv => whnf
  refine ⟨fun _ => ?_, fun _ => ?_⟩ <;> conv => whnf
  · exact ⟨rfl, Hp.le_refl _⟩
  have ho : Own (cbHp cb) (cbAtoms cb ++ []) := by rw [List.append_nil]; exact cb_own cb
  refine (drawWorldWaits_con a len cap cb hc _ [] ho).mono ?_
  rintro r h1 ⟨D, rfl, hd, ho1⟩
  have hw : WIn h1 D := ho1.win fun x hx => List.mem_append_right _ (List.mem_append_left _ hx)
  have hsm := hd.sm
  have hle : (cbHp cb).le h1 := cb_le ho1
  conv => whnf
  refine (iWorldWaits_con D hsm hd.why h1 hw).mono ?_
  rintro r h1 ⟨⟨n, rfl, hn⟩, rfl⟩
  conv => whnf
  refine (sWorldWaits_con D hsm h1 hw).mono ?_
  rintro r h1 ⟨⟨n', rfl, hn'⟩, rfl⟩
  obtain rfl : n' = n := hn'.one hn
  conv => whnf
  refine ⟨fun _ => ?_, fun h3 => absurd h3 (by simp)⟩
  conv => whnf
  refine (sWorldOk_con D hsm h1 hw).mono ?_
  rintro r h1 ⟨⟨b, rfl, hb⟩, rfl⟩
  conv => whnf
  refine ⟨fun b0 => ?_, fun b0 => ?_⟩ <;> conv => whnf
  · refine (sWorldWaits_con D hsm h1 hw).mono ?_
    rintro r h1 ⟨⟨m, rfl, hm⟩, rfl⟩
    obtain rfl : m = n' := hm.one hn
    conv => whnf
    exact ⟨congrArg Value.bool (by simp), hle⟩
  have hok : WOk D.pure := hb.1 (by simpa using b0)
  have hnm : n' = (mailsP D.pure.runs : Int) := by
    rcases hn with ⟨_, e⟩ | ⟨e, _⟩
    · exact e
    · exact absurd hok e
  obtain ⟨_, V, _, ok⟩ := hok
  have hlenP := pure_len D
  have hrn : D.runs.length ≤ 1000 := by have := hsm.runs; rw [pure_len] at this; exact this
  have hml : ∀ d ∈ D.pure.runs, d.mail.length ≤ 1000 := fun d hd => (hsm.each d hd).s1
  have hmm := mails_le hml D.pure.runs.length
  rw [List.take_length] at hmm
  have c3 : 0 ≤ D.taken ∧ D.taken ≤ 9999 := ok.cnt.taken
  have c4 : 0 ≤ D.lost ∧ D.lost ≤ 9999 := ok.cnt.lost
  have hsum : D.sent = D.taken + D.lost + (mailsP D.pure.runs : Int) := ok.sum
  have e1 : IntKind.i64.wrap (IntKind.i64.wrap (D.taken + D.lost) + (mailsP D.pure.runs : Int)) = D.taken + D.lost + (mailsP D.pure.runs : Int) := by
    rw [wrapN (D.taken + D.lost) (by omega) (by omega), wrapN _ (by omega) (by omega)]
  have hr : RowOk h1 (rowR D.rv D.runs) := hw.runs
  clear b0 hb hn hn'
  subst hnm
  refine W.cut [(5, .v (.int .i64 (mailsP (D.pure.runs.take 0) : Nat))), (6, .v (.int .i64 (0 : Nat))), (3, .p 0 0), (4, .v (.int .i64 (mailsP D.pure.runs : Nat)))] [⟨28, D.cells⟩] [] ⟨rfl, rfl, rfl, rfl, trivial⟩ rfl rfl ⟨_, rfl⟩ ?_
  refine W.loop (α := Nat) (fun i => [(5, .v (.int .i64 (mailsP (D.pure.runs.take i) : Nat))), (6, .v (.int .i64 (i : Nat))), (3, .p 0 0), (4, .v (.int .i64 (mailsP D.pure.runs : Nat)))]) (fun _ => [⟨28, D.cells⟩]) (fun i h' => i ≤ D.runs.length ∧ h' = h1) (fun i => D.runs.length - i) ?_ 0 h1 ⟨Nat.zero_le _, rfl⟩
  rintro i h5 ⟨hi, rfl⟩ ih
  refine vc_ok ⟨tbE_ok, _, Tryz.func4, Tryz.results4, Tryz.ntmps4⟩ 400 _ _ _ _ ?_
  conv => whnf
  refine ⟨fun h6 => ?_, fun h6 => ?_⟩ <;> conv => whnf
  · have hlt : i < D.runs.length := by simp at h6; omega
    have hltP : i < D.pure.runs.length := by omega
    obtain ⟨g, hra⟩ := row_some hw.runs (by omega)
    have hv : D.rv = .slice (some ⟨g, 0, none⟩) D.runs.length D.rk := by rw [WD.rv, hra]
    refine Ext.index slRun.u slRun.size rfl (by exact hv) rfl i rfl hlt ?_
    conv => whnf
    refine Ext.loadRunCell (D := D) rfl ⟨rfl, rfl⟩ rfl hr hv hlt 4 (by decide) rfl (.slice D.runs[i].2.a1 D.runs[i].1.mail.length D.runs[i].2.k1) rfl ?_
    conv => whnf
    have hm1 := mails_le hml i
    have hm2 := hml _ (List.getElem_mem hltP)
    have hm3 := mails_take D.pure.runs i hltP
    have hg : D.pure.runs[i].mail.length = D.runs[i].1.mail.length := by rw [pure_get D i hlt hltP]
    have hwm : IntKind.i64.wrap ((mailsP (D.pure.runs.take i) : Int) + (D.runs[i].1.mail.length : Int)) = ((mailsP (D.pure.runs.take (i + 1)) : Nat) : Int) := by rw [wrapN _ (by omega) (by omega)]; omega
    have hwk : IntKind.i64.wrap ((i : Int) + 1) = ((i + 1 : Nat) : Int) := by rw [wrapN _ (by omega) (by omega)]; omega
    rw [hwm, hwk]
    exact W.back (ih (i + 1) _ ⟨hlt, rfl⟩ (by omega)) [] (by exact ⟨rfl, rfl, rfl, rfl, trivial⟩) rfl rfl
  · have hge : i = D.runs.length := by simp at h6; omega
    have hT : D.pure.runs.take i = D.pure.runs := by rw [List.take_of_length_le (by omega)]
    rw [hT]
    refine ⟨fun _ => ?_, fun h3 => absurd h3 (by simp)⟩
    conv => whnf
    refine (lvSum_con D hsm h5 hw).mono ?_
    rintro r h5 ⟨rfl, rfl⟩
    conv => whnf
    rw [show wr (wr (D.taken + D.lost) + (mailsP D.pure.runs : Int)) = D.sent from e1.trans hsum.symm]
    refine ⟨fun _ => ?_, fun h3 => absurd h3 (by simp)⟩
    conv => whnf
    rw [e1, ← hsum]
    exact ⟨congrArg Value.bool (by simp), hle⟩
theorem walk (a0 : Option Addr) (len0 cap0 : Nat) (w : World) (h0 : Eld.Code0 w a0 len0 cap0) : Calls Tryz.prog 4 #[.slice a0 len0 cap0] w fun e w' => e = .returned (.bool true) ∧ Below w.heap.size w w' := by
  obtain ⟨cb, hc, hi⟩ := code_in h0
  exact ((law a0 len0 cap0  cb hc).run w hi).mono fun e w' ⟨v, h', he, hy, hi', hf⟩ => yes_below hi hi' hf he hy

set_option maxRecDepth 20000 in
theorem contract (H : Type) (enc : TypeId × Value → H) (W : World) (base : Nat) (args : Array Value) (ds gs : List (DataW H)) (before : List MemPlace)
    (hval : ∀ (j : Nat) t v, Tryz.f4.params[j]? = some t → args[j]? = some v → Value.okWide Tryz.prog W .any base t v)
    (hW : DataW.Whole enc Tryz.prog Tryz.f4.params.toList Rows.fnWaitsSpec.vars false W args.toList ds gs before) (_hL : laidMetH Tryz.prog Rows.fnWaitsRow.laid W) :
    Calls Tryz.prog 4 args W fun e W' => ∃ v, e = .returned v ∧ Rows.fnWaitsSpec.post enc Tryz.prog Tryz.f4 false true false false W args v W' := by
  have hW' := hW
  obtain ⟨p, q, hA0, hV, rfl, hfz, hnd⟩ := hW
  have hA : DataW.TrodAll enc Tryz.prog W 0 (fun _ => true) true Tryz.f4.params.toList args.toList ds p := hA0
  rw [Tryz.params4] at hA hval
  obtain ⟨v0, vs0, d0, ds0, p0, q0, hargs, rfl, rfl, h0, r0⟩ := trodAll_cons hA
  obtain ⟨rfl, rfl, rfl⟩ := trodAll_nil r0
  obtain rfl : args = #[v0] := by cases args; simp_all
  obtain ⟨rfl, rfl⟩ := trodVars_none hV
  obtain ⟨a0, len0, cap0, rfl⟩ := okWide_slice Tryz.underlying22 (hval 0 22 v0 rfl rfl)
  have k0 := h0
  have lt0 : ∀ x ∈ p0, x.block < W.heap.size := by obtain ⟨m, hm⟩ := k0; exact DataW.trod_lt m _ _ _ hm
  have w0 : Eld.Code0 W a0 len0 cap0 := by
    obtain ⟨fuel, hf⟩ := h0
    rcases open_ints Tryz.underlying22 Tryz.underlying5 (by kernel_rfl) hf with ⟨hcs, _⟩ | ⟨x, l, c, zs, hcs, _, hl, hm, hz, _, hcell, hwz⟩
    · simp [Value.cells] at hcs
      obtain ⟨rfl, rfl, rfl⟩ := hcs
      exact Eld.code_of_row (zs := []) (.inl ⟨rfl, rfl, rfl, rfl⟩)
    · simp [Value.cells] at hcs
      obtain ⟨rfl, rfl, rfl⟩ := hcs
      exact Eld.code_of_row (zs := zs) (.inr ⟨_, rfl, hl, hm, by simpa using hz, hcell, hwz⟩)
  clear hA0
  refine (walk a0 len0 cap0 W w0).mono fun e W' ⟨he, bel⟩ => ?_
  subst he
  exact ⟨_, rfl, _, _, _, [], _, [], hW', trodAll_mk1 (shut_bool Tryz.underlying4 _), (trodAll_cons_mk (Below.trod laidOut (by kernel_rfl) (of_decide_eq_true (by kernel_rfl)) k0 bel lt0) trodAll_mk0), rfl, bel.frame _, fun h => by cases h⟩
theorem laid_met (os : Os) : laidMet Tryz.prog Rows.fnWaitsRow.laid ((Eld.putAll (World.settled Tryz.prog os).heap.size (World.holding Tryz.prog os ⟨Eld.errBlocks, #[], []⟩)).forCall (fun _ _ => 0) ⟨#[], #[.slice none 0 0], []⟩).memory :=
  laidMet_of_run' 10 (by kernel_rfl) (by kernel_rfl)
theorem reads (os : Os) {H : Type} (enc : TypeId × Value → H) : ∃ places, DataW.whole enc Tryz.prog ((Eld.putAll (World.settled Tryz.prog os).heap.size (World.holding Tryz.prog os ⟨Eld.errBlocks, #[], []⟩)).forCall (fun _ _ => 0) ⟨#[], #[.slice none 0 0], []⟩).memory Tryz.f4.params.toList Rows.fnWaitsSpec.vars false #[.slice none 0 0].toList 8 = some ([.nil], [], places) :=
  ⟨[], by kernel_rfl⟩
set_option maxRecDepth 100000 in
theorem lifted (os : Os) (started : os.Started) (H : Type) (enc : TypeId × Value → H) (F : Stop.Interp) :
    ReturnsInHanded {} Tryz.checked os 4 .any ((OpenSpec.ofChange Rows.fnWaitsSpec).preRow enc Tryz.prog Tryz.f4 Rows.fnWaitsRow.domain false Rows.fnWaitsRow.laid) (((OpenSpec.ofChange Rows.fnWaitsSpec).at F).post enc Tryz.prog Tryz.f4 false true false false) := by
  obtain ⟨places, hx⟩ := reads os enc
  refine returnsInHanded_of_row (C := Tryz.checked) (s := OpenSpec.ofChange Rows.fnWaitsSpec) own started (by kernel_rfl) Tryz.func4
    (witness_row_atRef (enc := enc) (C := Tryz.checked) false (Eld.putAll (World.settled Tryz.prog os).heap.size (World.holding Tryz.prog os ⟨Eld.errBlocks, #[], []⟩)) #[.slice none 0 0] rfl (by kernel_rfl) (by kernel_rfl) (by kernel_rfl)
      (OpenSpec.preRow_of_cond 8 hx (by kernel_rfl) (fun k hk => by cases hk) (by kernel_rfl) (laid_met os))) ?_
  intro W base args ds gs before hval hW _ _ _ hL _ _
  exact contract H enc W base args ds gs before hval hW hL
set_option maxRecDepth 100000 in
theorem said : Rows.FnWaitsSaid :=
  OpenClaim.holds_of_cond 4 Tryz.f4 rfl rfl rfl rfl rfl rfl rfl ⟨rfl, rfl, rfl, rfl, rfl⟩ rfl rfl rfl rfl rfl (by kernel_rfl) Tryz.func4 FcFnWaits.closed
    (of_decide_eq_true (by kernel_rfl)) (by unfold Func.isWrapper; first | (rw [if_pos (by decide +kernel)]; kernel_rfl) | (rw [if_neg (by decide +kernel)]; exact ⟨rfl, rfl⟩))
    (fun os started H enc _ F => by rw [OpenClaim.pre_eq_preRow]; exact lifted os started H enc F)
theorem plain (f : FuncId) (fn : Func) (hf : Tryz.pinned.checked.prog.funcNamed Rows.fnWaitsRow.func = some f) (hfn : Tryz.pinned.checked.prog.funcs[f]? = some fn) :
    true = Tryz.pinned.checked.prog.looks [] ∧ ∀ (j : Nat) t, fn.params[j]? = some t → Tryz.pinned.checked.prog.wantsStandIn t = false := by
  obtain rfl : f = 4 := Option.some.inj ((show Tryz.prog.funcNamed Rows.fnWaitsRow.func = some 4 by kernel_rfl).symm.trans hf) |>.symm
  obtain rfl : fn = Tryz.f4 := (Option.some.inj (Tryz.func4.symm.trans hfn)).symm
  refine ⟨by kernel_rfl, fun j t ht => ?_⟩
  rw [Tryz.params4] at ht
  obtain rfl : t = 22 := by simpa using Array.mem_of_getElem? ht
  exact (show Tryz.prog.wantsStandIn 22 = false by kernel_rfl)
theorem card : Rows.FnWaitsCardSaid :=
  Claim7.holds_tied_plain_at .later [] _ _ _ _ said (fun _ h => by cases h) (by kernel_rfl) (fun _ h => by cases h) fnWaits_row_tie rfl ⟨rfl, rfl⟩ (by kernel_rfl) rfl plain (by kernel_rfl)
end FnWaits

/-- the given statement -/
theorem fnWaits_holds : Rows.FnWaitsCardSaid := FnWaits.card
#print axioms fnWaits_holds
end Go.Proofs.YtbejochaghmmbaaGreatDoor
