/-
  FnWorldLinks answers true for every code: in a drawn world that is ok who is linked is linked both ways, and with nobody that ended. No condition.
-/
import Derived.Test.YtbejochaghmmbaaGreatDoorRexWh
import Derived.Test.YtbejochaghmmbaaGreatDoorSj
import Derived.Test.YtbejochaghmmbaaGreatDoorEFrameN
import Derived.Test.YtbejochaghmmbaaGreatDoorFcFnWorldLinks
namespace Go.Proofs.YtbejochaghmmbaaGreatDoor
open Go.ChangeShapes Go.WideShapes Go.ChangeAt Go.RowKit Go.Joins
set_option maxRecDepth 100000
namespace FnWorldLinks
theorem law (a : Option Addr) (len cap : Nat) (cb : Option (Nat × Obj)) (hc : CodeIn a len cap cb) :
    Con Tryz.prog 7 #[.slice a len cap] (cbHp cb) (Yes cb) := by
  refine Con.of_W (tb := tbE) (args := [.slice a len cap]) Tryz.func7 rfl Tryz.results7 Tryz.ntmps7 (by simp) (Tryz.call7 _) (tm := [(0, .v (.slice a len cap))]) rfl ?_
  refine vc_ok ⟨tbE_ok, _, Tryz.func7, Tryz.results7, Tryz.ntmps7⟩ 400 _ _ _ _ ?_
  conv => whnf
  refine Ext.len Tryz.underlying22 rfl rfl ?_
  conv => whnf
  refine ⟨fun _ => ?_, fun _ => ?_⟩ <;> conv => whnf
  · exact ⟨rfl, Hp.le_refl _⟩
  have ho : Own (cbHp cb) (cbAtoms cb ++ []) := by rw [List.append_nil]; exact cb_own cb
  refine (drawWorldOk_con a len cap cb hc _ [] ho).mono ?_
  rintro r h1 ⟨D, rfl, hd, ho1⟩
  have hw : WIn h1 D := ho1.win fun x hx => List.mem_append_right _ (List.mem_append_left _ hx)
  have hsm := hd.sm
  have hle : (cbHp cb).le h1 := cb_le ho1
  conv => whnf
  refine (iWorldOk_con D hsm hd.why h1 hw.wi).mono ?_
  rintro r h1 ⟨⟨b, rfl, hb⟩, rfl⟩
  conv => whnf
  refine (sWorldOk_con D hsm h1 hw).mono ?_
  rintro r h1 ⟨⟨b', rfl, hb'⟩, rfl⟩
  obtain rfl : b' = b := by rw [Bool.eq_iff_iff, hb, hb']
  conv => whnf
  refine Ext.neqB rfl rfl rfl ?_
  conv => whnf
  refine ⟨fun _ => ?_, fun h3 => absurd h3 (by simp)⟩
  conv => whnf
  refine ⟨fun b0 => ?_, fun b0 => ?_⟩ <;> conv => whnf
  · refine (sWorldOk_con D hsm h1 hw).mono ?_
    rintro r h1 ⟨⟨b, rfl, hb2⟩, rfl⟩
    obtain rfl : b = b' := by rw [Bool.eq_iff_iff, hb2, hb]
    conv => whnf
    refine Ext.eqlB rfl rfl rfl ?_
    conv => whnf
    exact ⟨congrArg Value.bool (by simp), hle⟩
  have hok : WOk D.pure := hb.1 (by simpa using b0)
  clear b0 hb hb'
  obtain ⟨_, V, _, ho⟩ := hok
  have hn : D.runs.length ≤ 1000 := by have := hsm.runs; rw [pure_len] at this; exact this
  have hlenP := pure_len D
  have hr : RowOk h1 (rowR D.rv D.runs) := hw.runs
  have hst : ∀ x (hx : x < D.runs.length), (∃ z, z ∈ D.runs[x].1.links) → D.runs[x].1.st ≠ 3 := fun x hx ⟨z, hz⟩ e => by
    have hf := ho.fit x (by omega)
    rw [pure_get D x hx (by omega)] at hf
    have hrb : Eld.runB D.runs[x].1.toE = true := by have := hf.ok; unfold Eld.specRB at this; rw [Bool.and_eq_true] at this; exact this.1
    rw [((runF hrb).fin e).2.1] at hz
    cases hz
  have hsym : ∀ x y (hx : x < D.runs.length) (hy : y < D.runs.length), amongP D.runs[x].1.links ((y : Int) + 1) = amongP D.runs[y].1.links ((x : Int) + 1) := fun x y hx hy => by
    have ex := pure_get D x hx (by omega)
    have ey := pure_get D y hy (by omega)
    rw [← ex, ← ey]
    rcases Nat.lt_trichotomy x y with h | rfl | h
    · exact (ho.both y x (by omega) h).symm
    · rfl
    · exact ho.both x y (by omega) h
  refine W.cut [(5, .v (.int .i64 ((0 : Nat) + 1))), (3, .p 0 0)] [⟨28, D.cells⟩] [] ⟨rfl, rfl, trivial⟩ rfl rfl ⟨_, rfl⟩ ?_
  refine W.loop (α := Nat) (fun i => [(5, .v (.int .i64 ((i : Nat) + 1))), (3, .p 0 0)]) (fun _ => [⟨28, D.cells⟩]) (fun i h' => i ≤ D.runs.length ∧ h' = h1) (fun i => D.runs.length - i) ?_ 0 h1 ⟨Nat.zero_le _, rfl⟩
  rintro x h5 ⟨hi, rfl⟩ ih
  refine vc_ok ⟨tbE_ok, _, Tryz.func7, Tryz.results7, Tryz.ntmps7⟩ 400 _ _ _ _ ?_
  conv => whnf
  refine ⟨fun h6 => ?_, fun h6 => ?_⟩ <;> conv => whnf
  · have hx : x < D.runs.length := by simp at h6; omega
    have hwx : IntKind.i64.wrap ((x : Int) + 1 + 1) = ((x + 1 : Nat) : Int) + 1 := by rw [wrapN _ (by omega) (by omega)]; omega
    have hzx : IntKind.i64.wrap ((x : Int) + 1 - 1) = (x : Int) := by rw [show (x : Int) + 1 - 1 = x by omega]; exact wrapN _ (by omega) (by omega)
    obtain ⟨g, hra⟩ := row_some hw.runs (by omega)
    have hv : D.rv = .slice (some ⟨g, 0, none⟩) D.runs.length D.rk := by rw [WD.rv, hra]
    refine W.cut [(6, .v (.int .i64 ((0 : Nat) + 1))), (5, .v (.int .i64 ((x : Nat) + 1))), (3, .p 0 0)] [⟨28, D.cells⟩] [] ⟨rfl, rfl, rfl, trivial⟩ rfl rfl ⟨_, rfl⟩ ?_
    refine W.loop (α := Nat) (fun i => [(6, .v (.int .i64 ((i : Nat) + 1))), (5, .v (.int .i64 ((x : Nat) + 1))), (3, .p 0 0)]) (fun _ => [⟨28, D.cells⟩]) (fun i h' => i ≤ D.runs.length ∧ h' = h5) (fun i => D.runs.length - i) ?_ 0 h5 ⟨Nat.zero_le _, rfl⟩
    rintro y h7 ⟨hi2, rfl⟩ ih2
    refine vc_ok ⟨tbE_ok, _, Tryz.func7, Tryz.results7, Tryz.ntmps7⟩ 400 _ _ _ _ ?_
    conv => whnf
    refine ⟨fun h8 => ?_, fun h8 => ?_⟩ <;> conv => whnf
    · have hy : y < D.runs.length := by simp at h8; omega
      have hwy : IntKind.i64.wrap ((y : Int) + 1 + 1) = ((y + 1 : Nat) : Int) + 1 := by rw [wrapN _ (by omega) (by omega)]; omega
      have hzy : IntKind.i64.wrap ((y : Int) + 1 - 1) = (y : Int) := by rw [show (y : Int) + 1 - 1 = y by omega]; exact wrapN _ (by omega) (by omega)
      refine Ext.index slRun.u slRun.size rfl (by exact hv) rfl x hzx hx ?_
      conv => whnf
      refine Ext.loadRunCell (D := D) rfl ⟨rfl, rfl⟩ rfl hr hv hx 7 (by decide) rfl (.slice D.runs[x].2.a2 D.runs[x].1.links.length D.runs[x].2.k2) rfl ?_
      conv => whnf
      refine (lvAmong_con _ _ _ _ (by have := (hsm.each _ (pure_mem hx)).s2; omega) h7 (hw.each x hx).r2).mono ?_
      rintro r h7 ⟨rfl, rfl⟩
      conv => whnf
      refine Ext.index slRun.u slRun.size rfl (by exact hv) rfl y hzy hy ?_
      conv => whnf
      refine Ext.loadRunCell (D := D) rfl ⟨rfl, rfl⟩ rfl hr hv hy 7 (by decide) rfl (.slice D.runs[y].2.a2 D.runs[y].1.links.length D.runs[y].2.k2) rfl ?_
      conv => whnf
      refine (lvAmong_con _ _ _ _ (by have := (hsm.each _ (pure_mem hy)).s2; omega) h7 (hw.each y hy).r2).mono ?_
      rintro r h7 ⟨rfl, rfl⟩
      conv => whnf
      have hs := hsym x y hx hy
      generalize hA : amongP D.runs[x].1.links ((y : Int) + 1) = A at *
      rw [← hs]
      refine Ext.neqB rfl rfl rfl ?_
      conv => whnf
      refine ⟨fun _ => ?_, fun h3 => absurd h3 (by simp)⟩
      conv => whnf
      refine ⟨fun hAt => ?_, fun hAt => ?_⟩ <;> conv => whnf
      · have hA1 : amongP D.runs[x].1.links ((y : Int) + 1) = true := hA.trans hAt
        have hA2 : amongP D.runs[y].1.links ((x : Int) + 1) = true := (hs.symm.trans (by rw [hAt]))
        have hnx := hst x hx ⟨_, among_mem.1 hA1⟩
        have hny := hst y hy ⟨_, among_mem.1 hA2⟩
        refine (lvState_con D x hx hn _ rfl h7 hw).mono ?_
        rintro r h7 ⟨rfl, rfl⟩
        conv => whnf
        refine ⟨fun _ => ?_, fun e => absurd e (by simpa using hnx)⟩
        conv => whnf
        refine (lvState_con D y hy hn _ rfl h7 hw).mono ?_
        rintro r h7 ⟨rfl, rfl⟩
        conv => whnf
        refine ⟨fun e => absurd e (by simpa using hny), fun _ => ?_⟩
        conv => whnf
        rw [hwy]
        exact W.back (ih2 (y + 1) _ ⟨hy, rfl⟩ (by omega)) [] (by exact ⟨rfl, rfl, rfl, trivial⟩) rfl rfl
      · rw [hwy]
        exact W.back (ih2 (y + 1) _ ⟨hy, rfl⟩ (by omega)) [] (by exact ⟨rfl, rfl, rfl, trivial⟩) rfl rfl
    · rw [hwx]
      exact W.back (ih (x + 1) _ ⟨hx, rfl⟩ (by omega)) [] (by exact ⟨rfl, rfl, trivial⟩) rfl rfl
  · exact ⟨rfl, hle⟩
theorem walk (a0 : Option Addr) (len0 cap0 : Nat) (w : World) (h0 : Eld.Code0 w a0 len0 cap0) : Calls Tryz.prog 7 #[.slice a0 len0 cap0] w fun e w' => e = .returned (.bool true) ∧ Below w.heap.size w w' := by
  obtain ⟨cb, hc, hi⟩ := code_in h0
  exact ((law a0 len0 cap0  cb hc).run w hi).mono fun e w' ⟨v, h', he, hy, hi', hf⟩ => yes_below hi hi' hf he hy

set_option maxRecDepth 20000 in
theorem contract (H : Type) (enc : TypeId × Value → H) (W : World) (base : Nat) (args : Array Value) (ds gs : List (DataW H)) (before : List MemPlace)
    (hval : ∀ (j : Nat) t v, Tryz.f7.params[j]? = some t → args[j]? = some v → Value.okWide Tryz.prog W .any base t v)
    (hW : DataW.Whole enc Tryz.prog Tryz.f7.params.toList Rows.fnWorldLinksSpec.vars false W args.toList ds gs before) (_hL : laidMetH Tryz.prog Rows.fnWorldLinksRow.laid W) :
    Calls Tryz.prog 7 args W fun e W' => ∃ v, e = .returned v ∧ Rows.fnWorldLinksSpec.post enc Tryz.prog Tryz.f7 false true false false W args v W' := by
  have hW' := hW
  obtain ⟨p, q, hA0, hV, rfl, hfz, hnd⟩ := hW
  have hA : DataW.TrodAll enc Tryz.prog W 0 (fun _ => true) true Tryz.f7.params.toList args.toList ds p := hA0
  rw [Tryz.params7] at hA hval
  obtain ⟨v0, vs0, d0, ds0, p0, q0, hargs, rfl, rfl, h0, r0⟩ := trodAll_cons hA
  obtain ⟨rfl, rfl, rfl⟩ := trodAll_nil r0
  obtain rfl : args = #[v0] := by cases args; simp_all
  obtain ⟨rfl, rfl⟩ := trodVars_none hV
  obtain ⟨a0, len0, cap0, rfl⟩ := okWide_slice Tryz.underlying22 (hval 0 22 v0 rfl rfl)
  have k0 := h0
  have lt0 : ∀ x ∈ p0, x.block < W.heap.size := by obtain ⟨m, hm⟩ := k0; exact DataW.trod_lt m _ _ _ hm
  have w0 : Eld.Code0 W a0 len0 cap0 := by
    obtain ⟨fuel, hf⟩ := h0
    rcases open_ints Tryz.underlying22 Tryz.underlying5 (by kernel_rfl) hf with ⟨hcs, _⟩ | ⟨x, l, c, zs, hcs, _, hl, hm, hz, _, hcell, hwz⟩
    · simp [Value.cells] at hcs
      obtain ⟨rfl, rfl, rfl⟩ := hcs
      exact Eld.code_of_row (zs := []) (.inl ⟨rfl, rfl, rfl, rfl⟩)
    · simp [Value.cells] at hcs
      obtain ⟨rfl, rfl, rfl⟩ := hcs
      exact Eld.code_of_row (zs := zs) (.inr ⟨_, rfl, hl, hm, by simpa using hz, hcell, hwz⟩)
  clear hA0
  refine (walk a0 len0 cap0 W w0).mono fun e W' ⟨he, bel⟩ => ?_
  subst he
  exact ⟨_, rfl, _, _, _, [], _, [], hW', trodAll_mk1 (shut_bool Tryz.underlying4 _), (trodAll_cons_mk (Below.trod laidOut (by kernel_rfl) (of_decide_eq_true (by kernel_rfl)) k0 bel lt0) trodAll_mk0), rfl, bel.frame _, fun h => by cases h⟩
theorem laid_met (os : Os) : laidMet Tryz.prog Rows.fnWorldLinksRow.laid ((Eld.putAll (World.settled Tryz.prog os).heap.size (World.holding Tryz.prog os ⟨Eld.errBlocks, #[], []⟩)).forCall (fun _ _ => 0) ⟨#[], #[.slice none 0 0], []⟩).memory :=
  laidMet_of_run' 10 (by kernel_rfl) (by kernel_rfl)
theorem reads (os : Os) {H : Type} (enc : TypeId × Value → H) : ∃ places, DataW.whole enc Tryz.prog ((Eld.putAll (World.settled Tryz.prog os).heap.size (World.holding Tryz.prog os ⟨Eld.errBlocks, #[], []⟩)).forCall (fun _ _ => 0) ⟨#[], #[.slice none 0 0], []⟩).memory Tryz.f7.params.toList Rows.fnWorldLinksSpec.vars false #[.slice none 0 0].toList 8 = some ([.nil], [], places) :=
  ⟨[], by kernel_rfl⟩
set_option maxRecDepth 100000 in
theorem lifted (os : Os) (started : os.Started) (H : Type) (enc : TypeId × Value → H) (F : Stop.Interp) :
    ReturnsInHanded {} Tryz.checked os 7 .any ((OpenSpec.ofChange Rows.fnWorldLinksSpec).preRow enc Tryz.prog Tryz.f7 Rows.fnWorldLinksRow.domain false Rows.fnWorldLinksRow.laid) (((OpenSpec.ofChange Rows.fnWorldLinksSpec).at F).post enc Tryz.prog Tryz.f7 false true false false) := by
  obtain ⟨places, hx⟩ := reads os enc
  refine returnsInHanded_of_row (C := Tryz.checked) (s := OpenSpec.ofChange Rows.fnWorldLinksSpec) own started (by kernel_rfl) Tryz.func7
    (witness_row_atRef (enc := enc) (C := Tryz.checked) false (Eld.putAll (World.settled Tryz.prog os).heap.size (World.holding Tryz.prog os ⟨Eld.errBlocks, #[], []⟩)) #[.slice none 0 0] rfl (by kernel_rfl) (by kernel_rfl) (by kernel_rfl)
      (OpenSpec.preRow_of_cond 8 hx (by kernel_rfl) (fun k hk => by cases hk) (by kernel_rfl) (laid_met os))) ?_
  intro W base args ds gs before hval hW _ _ _ hL _ _
  exact contract H enc W base args ds gs before hval hW hL
set_option maxRecDepth 100000 in
theorem said : Rows.FnWorldLinksSaid :=
  OpenClaim.holds_of_cond 7 Tryz.f7 rfl rfl rfl rfl rfl rfl rfl ⟨rfl, rfl, rfl, rfl, rfl⟩ rfl rfl rfl rfl rfl (by kernel_rfl) Tryz.func7 FcFnWorldLinks.closed
    (of_decide_eq_true (by kernel_rfl)) (by unfold Func.isWrapper; first | (rw [if_pos (by decide +kernel)]; kernel_rfl) | (rw [if_neg (by decide +kernel)]; exact ⟨rfl, rfl⟩))
    (fun os started H enc _ F => by rw [OpenClaim.pre_eq_preRow]; exact lifted os started H enc F)
theorem plain (f : FuncId) (fn : Func) (hf : Tryz.pinned.checked.prog.funcNamed Rows.fnWorldLinksRow.func = some f) (hfn : Tryz.pinned.checked.prog.funcs[f]? = some fn) :
    true = Tryz.pinned.checked.prog.looks [] ∧ ∀ (j : Nat) t, fn.params[j]? = some t → Tryz.pinned.checked.prog.wantsStandIn t = false := by
  obtain rfl : f = 7 := Option.some.inj ((show Tryz.prog.funcNamed Rows.fnWorldLinksRow.func = some 7 by kernel_rfl).symm.trans hf) |>.symm
  obtain rfl : fn = Tryz.f7 := (Option.some.inj (Tryz.func7.symm.trans hfn)).symm
  refine ⟨by kernel_rfl, fun j t ht => ?_⟩
  rw [Tryz.params7] at ht
  obtain rfl : t = 22 := by simpa using Array.mem_of_getElem? ht
  exact (show Tryz.prog.wantsStandIn 22 = false by kernel_rfl)
theorem card : Rows.FnWorldLinksCardSaid :=
  Claim7.holds_tied_plain_at .later [] _ _ _ _ said (fun _ h => by cases h) (by kernel_rfl) (fun _ h => by cases h) fnWorldLinks_row_tie rfl ⟨rfl, rfl⟩ (by kernel_rfl) rfl plain (by kernel_rfl)
end FnWorldLinks

/-- the given statement -/
theorem fnWorldLinks_holds : Rows.FnWorldLinksCardSaid := FnWorldLinks.card
#print axioms fnWorldLinks_holds
end Go.Proofs.YtbejochaghmmbaaGreatDoor
