/-
  FnAlive answers true for every code: in a drawn world who did not end is alive. No condition.
-/
import Derived.Test.YtbejochaghmmbaaGreatDoorRexWi
import Derived.Test.YtbejochaghmmbaaGreatDoorSj
import Derived.Test.YtbejochaghmmbaaGreatDoorEFrameN
import Derived.Test.YtbejochaghmmbaaGreatDoorFcFnAlive
namespace Go.Proofs.YtbejochaghmmbaaGreatDoor
open Go.ChangeShapes Go.WideShapes Go.ChangeAt Go.RowKit Go.Joins
set_option maxRecDepth 100000
namespace FnAlive
theorem law (a : Option Addr) (len cap : Nat) (cb : Option (Nat × Obj)) (hc : CodeIn a len cap cb) :
    Con Tryz.prog 9 #[.slice a len cap] (cbHp cb) (Yes cb) := by
  refine Con.of_W (tb := tbE) (args := [.slice a len cap]) Tryz.func9 rfl Tryz.results9 Tryz.ntmps9 (by simp) (Tryz.call9 _) (tm := [(0, .v (.slice a len cap))]) rfl ?_
  refine vc_ok ⟨tbE_ok, _, Tryz.func9, Tryz.results9, Tryz.ntmps9⟩ 400 _ _ _ _ ?_
  conv => whnf
  refine Ext.len Tryz.underlying22 rfl rfl ?_
  conv => whnf
  refine ⟨fun _ => ?_, fun _ => ?_⟩ <;> conv => whnf
  · exact ⟨rfl, Hp.le_refl _⟩
  have ho : Own (cbHp cb) (cbAtoms cb ++ []) := by rw [List.append_nil]; exact cb_own cb
  refine (drawWorldAlive_con a len cap cb hc _ [] ho).mono ?_
  rintro r h1 ⟨D, rfl, hd, ho1⟩
  have hw : WIn h1 D := ho1.win fun x hx => List.mem_append_right _ (List.mem_append_left _ hx)
  have hsm := hd.sm
  have hle : (cbHp cb).le h1 := cb_le ho1
  conv => whnf
  have hp1 : Own h1 (wAtoms D ++ (cbAtoms cb ++ [])) := ho1.perm (perm_of fun x => by simp only [List.count_append]; omega)
  refine (iWorldAlive_con D hsm hd.why h1 _ hp1).mono ?_
  rintro r h2 ⟨L, la, lk, rfl, hL, ho2⟩
  conv => whnf
  have hp2 : Own h2 (wAtoms D ++ (.row (rowI (.slice la L.length lk) L) :: (cbAtoms cb ++ []))) := ho2.perm (perm_of fun x => by simp only [List.count_append, List.count_cons]; omega)
  refine (sWorldAlive_con D hsm h2 _ hp2).mono ?_
  rintro r h3 ⟨M, ma, mk, rfl, hM, ho3⟩
  obtain rfl : M = L := hM.one hL
  have hw3 : WIn h3 D := ho3.win fun x hx => List.mem_cons_of_mem _ (List.mem_append_left _ hx)
  have hLl : M.length ≤ 1000 := by
    have hsr := hsm.runs
    rcases hL with ⟨_, e⟩ | ⟨_, e⟩
    · rw [e]; exact Nat.le_trans (aliveP_len _ _) hsr
    · rw [e]; decide
  have r1 : RowOk h3 (rowI (.slice ma M.length mk) M) := ho3.rowOk List.mem_cons_self
  have r2 : RowOk h3 (rowI (.slice la M.length lk) M) := ho3.rowOk (List.mem_cons_of_mem _ (List.mem_append_right _ List.mem_cons_self))
  have hle3 : (cbHp cb).le h3 := cb_le (cb := cb) (l := wAtoms D ++ [.row (rowI (.slice la M.length lk) M), .row (rowI (.slice ma M.length mk) M)]) (ho3.perm (perm_of fun x => by simp only [List.count_append, List.count_cons, List.count_nil]; omega))
  conv => whnf
  refine (lvInts_con la ma lk mk M M (by omega) h3 r2 r1).mono ?_
  rintro r h3 ⟨rfl, rfl⟩
  rw [decide_eq_true (rfl : M = M)]
  conv => whnf
  refine ⟨fun _ => ?_, fun h3 => absurd h3 (by simp)⟩
  conv => whnf
  refine (sWorldOk_con D hsm h3 hw3).mono ?_
  rintro r h3 ⟨⟨b, rfl, hb⟩, rfl⟩
  conv => whnf
  refine ⟨fun b0 => ?_, fun b0 => ?_⟩ <;> conv => whnf
  · have hp3 : Own h3 (wAtoms D ++ (.row (rowI (.slice ma M.length mk) M) :: .row (rowI (.slice la M.length lk) M) :: (cbAtoms cb ++ []))) := ho3.perm (perm_of fun x => by simp only [List.count_append, List.count_cons]; omega)
    refine (sWorldAlive_con D hsm h3 _ hp3).mono ?_
    rintro r h4 ⟨K, ka, kk, rfl, hK, ho4⟩
    obtain rfl : K = M := hK.one hL
    have r3 : RowOk h4 (rowI (.slice ka K.length kk) K) := ho4.rowOk List.mem_cons_self
    have r4 : RowOk h4 (rowI (.slice la K.length lk) K) := ho4.rowOk (List.mem_cons_of_mem _ (List.mem_append_right _ (List.mem_cons_of_mem _ List.mem_cons_self)))
    have hle4 : (cbHp cb).le h4 := cb_le (cb := cb) (l := wAtoms D ++ [.row (rowI (.slice la K.length lk) K), .row (rowI (.slice ma K.length mk) K), .row (rowI (.slice ka K.length kk) K)]) (ho4.perm (perm_of fun x => by simp only [List.count_append, List.count_cons, List.count_nil]; omega))
    conv => whnf
    refine (lvInts_con la ka lk kk K K (by omega) h4 r4 r3).mono ?_
    rintro r h4 ⟨rfl, rfl⟩
    rw [decide_eq_true (rfl : K = K)]
    conv => whnf
    exact ⟨rfl, hle4⟩
  have hok : WOk D.pure := hb.1 (by simpa using b0)
  have hM : M = aliveP D.pure.runs D.pure.runs.length := by
    rcases hL with ⟨_, e⟩ | ⟨e, _⟩
    · exact e
    · exact absurd hok e
  have hlenP := pure_len D
  have hn : D.runs.length ≤ 1000 := by have := hsm.runs; rw [pure_len] at this; exact this
  clear b0 hb
  refine W.cut [(5, .v (.int .i64 ((aliveP D.pure.runs 0).length : Nat))), (6, .v (.int .i64 ((0 : Nat) + 1))), (3, .p 0 0), (4, .v (.slice la M.length lk))] [⟨28, D.cells⟩] [] ⟨rfl, rfl, rfl, rfl, trivial⟩ rfl rfl ⟨_, rfl⟩ ?_
  refine W.loop (α := Nat) (fun i => [(5, .v (.int .i64 ((aliveP D.pure.runs i).length : Nat))), (6, .v (.int .i64 ((i : Nat) + 1))), (3, .p 0 0), (4, .v (.slice la M.length lk))]) (fun _ => [⟨28, D.cells⟩]) (fun i h' => i ≤ D.runs.length ∧ h' = h3) (fun i => D.runs.length - i) ?_ 0 h3 ⟨Nat.zero_le _, rfl⟩
  rintro i h5 ⟨hi, rfl⟩ ih
  refine vc_ok ⟨tbE_ok, _, Tryz.func9, Tryz.results9, Tryz.ntmps9⟩ 400 _ _ _ _ ?_
  conv => whnf
  refine ⟨fun h6 => ?_, fun h6 => ?_⟩ <;> conv => whnf
  · have hlt : i < D.runs.length := by simp at h6; omega
    have hltP : i < D.pure.runs.length := by omega
    have hwi : IntKind.i64.wrap ((i : Int) + 1 + 1) = ((i + 1 : Nat) : Int) + 1 := by rw [wrapN _ (by omega) (by omega)]; omega
    have hst := aliveP_step D.pure.runs i hltP
    rw [pure_get D i hlt hltP] at hst
    have hal := aliveP_len D.pure.runs i
    refine (lvState_con D i hlt hn _ rfl h5 hw3).mono ?_
    rintro r h5 ⟨rfl, rfl⟩
    conv => whnf
    refine ⟨fun b1 => ?_, fun b1 => ?_⟩ <;> conv => whnf
    · have hne : D.runs[i].1.st ≠ 3 := by simpa using b1
      rw [if_neg hne] at hst
      obtain ⟨t, ht⟩ := aliveP_pre D.pure.runs (i + 1) D.pure.runs.length hltP (Nat.le_refl _)
      rw [← hM, hst] at ht
      have hkl : (aliveP D.pure.runs i).length < M.length := by rw [ht]; simp
      have hkv : M[(aliveP D.pure.runs i).length] = (i : Int) + 1 := by
        simp only [ht]
        rw [List.getElem_append_left (by simp), List.getElem_append_right (Nat.le_refl _)]
        simp
      have hwk : IntKind.i64.wrap (((aliveP D.pure.runs i).length : Int) + 1) = ((aliveP D.pure.runs (i + 1)).length : Int) := by
        rw [hst, List.length_append, wrapN _ (by omega) (by omega)]; simp
      refine ⟨fun b2 => ?_, fun b2 => ?_⟩ <;> conv => whnf
      · obtain ⟨gl, hva⟩ := row_some r2 (by omega)
        have hlv : Value.slice la M.length lk = .slice (some ⟨gl, 0, none⟩) M.length lk := by rw [hva]
        refine Ext.index slInt.u slInt.size rfl (by exact hlv) rfl (aliveP D.pure.runs i).length rfl hkl ?_
        conv => whnf
        refine Ext.loadInt rfl r2 hlv hkl rfl ?_
        conv => whnf
        rw [hkv]
        refine ⟨fun h3 => absurd h3 (by simp), fun _ => ?_⟩
        conv => whnf
        rw [hwk, hwi]
        exact W.back (ih (i + 1) _ ⟨hlt, rfl⟩ (by omega)) [] (by exact ⟨rfl, rfl, rfl, rfl, trivial⟩) rfl rfl
      · have : (M.length : Int) ≤ ((aliveP D.pure.runs i).length : Int) := by simpa using b2
        omega
    · have h3 : D.runs[i].1.st = 3 := by simpa using b1
      rw [if_pos h3] at hst
      rw [hwi, ← hst]
      exact W.back (ih (i + 1) _ ⟨hlt, rfl⟩ (by omega)) [] (by exact ⟨rfl, rfl, rfl, rfl, trivial⟩) rfl rfl
  · have hge : i = D.runs.length := by simp at h6; omega
    rw [hge, ← hlenP, ← hM]
    exact ⟨congrArg Value.bool (by simp), hle3⟩
theorem walk (a0 : Option Addr) (len0 cap0 : Nat) (w : World) (h0 : Eld.Code0 w a0 len0 cap0) : Calls Tryz.prog 9 #[.slice a0 len0 cap0] w fun e w' => e = .returned (.bool true) ∧ Below w.heap.size w w' := by
  obtain ⟨cb, hc, hi⟩ := code_in h0
  exact ((law a0 len0 cap0  cb hc).run w hi).mono fun e w' ⟨v, h', he, hy, hi', hf⟩ => yes_below hi hi' hf he hy

set_option maxRecDepth 20000 in
theorem contract (H : Type) (enc : TypeId × Value → H) (W : World) (base : Nat) (args : Array Value) (ds gs : List (DataW H)) (before : List MemPlace)
    (hval : ∀ (j : Nat) t v, Tryz.f9.params[j]? = some t → args[j]? = some v → Value.okWide Tryz.prog W .any base t v)
    (hW : DataW.Whole enc Tryz.prog Tryz.f9.params.toList Rows.fnAliveSpec.vars false W args.toList ds gs before) (_hL : laidMetH Tryz.prog Rows.fnAliveRow.laid W) :
    Calls Tryz.prog 9 args W fun e W' => ∃ v, e = .returned v ∧ Rows.fnAliveSpec.post enc Tryz.prog Tryz.f9 false true false false W args v W' := by
  have hW' := hW
  obtain ⟨p, q, hA0, hV, rfl, hfz, hnd⟩ := hW
  have hA : DataW.TrodAll enc Tryz.prog W 0 (fun _ => true) true Tryz.f9.params.toList args.toList ds p := hA0
  rw [Tryz.params9] at hA hval
  obtain ⟨v0, vs0, d0, ds0, p0, q0, hargs, rfl, rfl, h0, r0⟩ := trodAll_cons hA
  obtain ⟨rfl, rfl, rfl⟩ := trodAll_nil r0
  obtain rfl : args = #[v0] := by cases args; simp_all
  obtain ⟨rfl, rfl⟩ := trodVars_none hV
  obtain ⟨a0, len0, cap0, rfl⟩ := okWide_slice Tryz.underlying22 (hval 0 22 v0 rfl rfl)
  have k0 := h0
  have lt0 : ∀ x ∈ p0, x.block < W.heap.size := by obtain ⟨m, hm⟩ := k0; exact DataW.trod_lt m _ _ _ hm
  have w0 : Eld.Code0 W a0 len0 cap0 := by
    obtain ⟨fuel, hf⟩ := h0
    rcases open_ints Tryz.underlying22 Tryz.underlying5 (by kernel_rfl) hf with ⟨hcs, _⟩ | ⟨x, l, c, zs, hcs, _, hl, hm, hz, _, hcell, hwz⟩
    · simp [Value.cells] at hcs
      obtain ⟨rfl, rfl, rfl⟩ := hcs
      exact Eld.code_of_row (zs := []) (.inl ⟨rfl, rfl, rfl, rfl⟩)
    · simp [Value.cells] at hcs
      obtain ⟨rfl, rfl, rfl⟩ := hcs
      exact Eld.code_of_row (zs := zs) (.inr ⟨_, rfl, hl, hm, by simpa using hz, hcell, hwz⟩)
  clear hA0
  refine (walk a0 len0 cap0 W w0).mono fun e W' ⟨he, bel⟩ => ?_
  subst he
  exact ⟨_, rfl, _, _, _, [], _, [], hW', trodAll_mk1 (shut_bool Tryz.underlying4 _), (trodAll_cons_mk (Below.trod laidOut (by kernel_rfl) (of_decide_eq_true (by kernel_rfl)) k0 bel lt0) trodAll_mk0), rfl, bel.frame _, fun h => by cases h⟩
theorem laid_met (os : Os) : laidMet Tryz.prog Rows.fnAliveRow.laid ((Eld.putAll (World.settled Tryz.prog os).heap.size (World.holding Tryz.prog os ⟨Eld.errBlocks, #[], []⟩)).forCall (fun _ _ => 0) ⟨#[], #[.slice none 0 0], []⟩).memory :=
  laidMet_of_run' 10 (by kernel_rfl) (by kernel_rfl)
theorem reads (os : Os) {H : Type} (enc : TypeId × Value → H) : ∃ places, DataW.whole enc Tryz.prog ((Eld.putAll (World.settled Tryz.prog os).heap.size (World.holding Tryz.prog os ⟨Eld.errBlocks, #[], []⟩)).forCall (fun _ _ => 0) ⟨#[], #[.slice none 0 0], []⟩).memory Tryz.f9.params.toList Rows.fnAliveSpec.vars false #[.slice none 0 0].toList 8 = some ([.nil], [], places) :=
  ⟨[], by kernel_rfl⟩
set_option maxRecDepth 100000 in
theorem lifted (os : Os) (started : os.Started) (H : Type) (enc : TypeId × Value → H) (F : Stop.Interp) :
    ReturnsInHanded {} Tryz.checked os 9 .any ((OpenSpec.ofChange Rows.fnAliveSpec).preRow enc Tryz.prog Tryz.f9 Rows.fnAliveRow.domain false Rows.fnAliveRow.laid) (((OpenSpec.ofChange Rows.fnAliveSpec).at F).post enc Tryz.prog Tryz.f9 false true false false) := by
  obtain ⟨places, hx⟩ := reads os enc
  refine returnsInHanded_of_row (C := Tryz.checked) (s := OpenSpec.ofChange Rows.fnAliveSpec) own started (by kernel_rfl) Tryz.func9
    (witness_row_atRef (enc := enc) (C := Tryz.checked) false (Eld.putAll (World.settled Tryz.prog os).heap.size (World.holding Tryz.prog os ⟨Eld.errBlocks, #[], []⟩)) #[.slice none 0 0] rfl (by kernel_rfl) (by kernel_rfl) (by kernel_rfl)
      (OpenSpec.preRow_of_cond 8 hx (by kernel_rfl) (fun k hk => by cases hk) (by kernel_rfl) (laid_met os))) ?_
  intro W base args ds gs before hval hW _ _ _ hL _ _
  exact contract H enc W base args ds gs before hval hW hL
set_option maxRecDepth 100000 in
theorem said : Rows.FnAliveSaid :=
  OpenClaim.holds_of_cond 9 Tryz.f9 rfl rfl rfl rfl rfl rfl rfl ⟨rfl, rfl, rfl, rfl, rfl⟩ rfl rfl rfl rfl rfl (by kernel_rfl) Tryz.func9 FcFnAlive.closed
    (of_decide_eq_true (by kernel_rfl)) (by unfold Func.isWrapper; first | (rw [if_pos (by decide +kernel)]; kernel_rfl) | (rw [if_neg (by decide +kernel)]; exact ⟨rfl, rfl⟩))
    (fun os started H enc _ F => by rw [OpenClaim.pre_eq_preRow]; exact lifted os started H enc F)
theorem plain (f : FuncId) (fn : Func) (hf : Tryz.pinned.checked.prog.funcNamed Rows.fnAliveRow.func = some f) (hfn : Tryz.pinned.checked.prog.funcs[f]? = some fn) :
    true = Tryz.pinned.checked.prog.looks [] ∧ ∀ (j : Nat) t, fn.params[j]? = some t → Tryz.pinned.checked.prog.wantsStandIn t = false := by
  obtain rfl : f = 9 := Option.some.inj ((show Tryz.prog.funcNamed Rows.fnAliveRow.func = some 9 by kernel_rfl).symm.trans hf) |>.symm
  obtain rfl : fn = Tryz.f9 := (Option.some.inj (Tryz.func9.symm.trans hfn)).symm
  refine ⟨by kernel_rfl, fun j t ht => ?_⟩
  rw [Tryz.params9] at ht
  obtain rfl : t = 22 := by simpa using Array.mem_of_getElem? ht
  exact (show Tryz.prog.wantsStandIn 22 = false by kernel_rfl)
theorem card : Rows.FnAliveCardSaid :=
  Claim7.holds_tied_plain_at .later [] _ _ _ _ said (fun _ h => by cases h) (by kernel_rfl) (fun _ h => by cases h) fnAlive_row_tie rfl ⟨rfl, rfl⟩ (by kernel_rfl) rfl plain (by kernel_rfl)
end FnAlive

/-- the given statement -/
theorem fnAlive_holds : Rows.FnAliveCardSaid := FnAlive.card
#print axioms fnAlive_holds
end Go.Proofs.YtbejochaghmmbaaGreatDoor
