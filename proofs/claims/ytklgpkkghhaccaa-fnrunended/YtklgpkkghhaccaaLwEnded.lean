/-
  FnRunEnded answers true for every code: a drawn run that ended has nothing. No condition.
-/
import Derived.Test.YtklgpkkghhaccaaRj
namespace Go.Proofs.Ytklgpkkghhaccaa
open Go.ChangeShapes Go.WideShapes Go.ChangeAt Go.RowKit Go.Joins
set_option maxRecDepth 100000
namespace FnRunEnded
theorem law (a : Option Addr) (len cap : Nat) (cb : Option (Nat × Obj)) (hc : CodeIn a len cap cb) :
    Con Try.prog 6 #[.slice a len cap] (cbHp cb) (Yes cb) := by
  refine Con.of_W (tb := tbE) (args := [.slice a len cap]) Try.func6 rfl Try.results6 Try.ntmps6 (by simp) (Try.call6 _) (tm := [(0, .v (.slice a len cap))]) rfl ?_
  refine vc_ok ⟨tbE_ok, _, Try.func6, Try.results6, Try.ntmps6⟩ 400 _ _ _ _ ?_
  conv => whnf
  refine Ext.len Try.underlying22 rfl rfl ?_
  conv => whnf
  refine ⟨fun _ => ?_, fun _ => ?_⟩ <;> conv => whnf
  · exact ⟨rfl, Hp.le_refl _⟩
  have ho : Own (cbHp cb) (cbAtoms cb ++ []) := by rw [List.append_nil]; exact cb_own cb
  refine (drawRunOk_con a len cap cb hc _ [] ho).mono ?_
  rintro r h1 ⟨d, rp, rfl, hd, ho1⟩
  have hin : RunIn h1 d rp := ho1.run fun x hx => List.mem_append_right _ (List.mem_append_left _ hx)
  have hsh := hd.sh
  have hle : (cbHp cb).le h1 := cb_le ho1
  have hboth := hd.both
  conv => whnf
  refine (iRunOk_con d rp hsh h1 hin).mono ?_
  rintro r h2 ⟨rfl, rfl⟩
  conv => whnf
  refine (sRunOk_con d rp hsh h2 hin).mono ?_
  rintro r h3 ⟨rfl, rfl⟩
  rw [hboth]
  conv => whnf
  refine Ext.neqB rfl rfl rfl ?_
  conv => whnf
  refine ⟨fun _ => ?_, fun h4 => absurd h4 (by simp)⟩
  conv => whnf
  refine ⟨fun hok => ?_, fun hok => ?_⟩ <;> conv => whnf
  · refine (sRunOk_con d rp hsh h3 hin).mono ?_
    rintro r h5 ⟨rfl, rfl⟩
    rw [hboth]
    conv => whnf
    refine Ext.eqlB rfl rfl rfl ?_
    conv => whnf
    exact ⟨congrArg Value.bool (by simp), hle⟩
  · have hrun : Eld.runB d.toE = true := by simpa using hok
    have hend := (Eld.run_parts hrun).2
    refine ⟨fun h5 => ?_, fun h5 => ?_⟩ <;> conv => whnf
    · have h3 : d.st = 3 := by simpa using h5
      have he : d.mail.length = 0 ∧ d.links.length = 0 ∧ d.wat.length = 0 := by
        have : Eld.endB d.toE = ((d.mail.length == 0) && ((d.links.length == 0) && (d.wat.length == 0))) := by unfold Eld.endB; rw [if_pos (show d.toE.st = 3 from h3)]; rfl
        rw [this] at hend
        simpa using hend
      refine Ext.litV rfl ho1 (0, 0) rfl fun g6 h6 hle6 ho6 => ?_
      conv => whnf
      refine ⟨fun _ => ?_, fun h7 => absurd h7 (by rw [he.1, he.2.1, he.2.2]; decide)⟩
      conv => whnf
      have hin6 : RunIn h6 d rp := ho6.run fun x hx => List.mem_cons_of_mem _ (List.mem_append_right _ (List.mem_append_left _ hx))
      refine (iRunOk_con { d with mail := [(0, 0)] } { rp with a1 := some ⟨g6, 0, none⟩, k1 := 1 } ⟨hsh.s0, by show 1 ≤ 1000000; decide, hsh.s2, hsh.s3⟩ h6 ⟨hin6.r0, ho6.rowOk List.mem_cons_self, hin6.r2, hin6.r3⟩).mono ?_
      rintro r h8 ⟨rfl, rfl⟩
      conv => whnf
      have hno : Eld.runB ({ d with mail := [(0, 0)] } : RunD).toE = false := by
        cases e : Eld.runB ({ d with mail := [(0, 0)] } : RunD).toE with
        | false => rfl
        | true =>
          have h9 := (Eld.run_parts e).2
          unfold Eld.endB at h9
          rw [if_pos (show ({ d with mail := [(0, 0)] } : RunD).toE.st = 3 from h3)] at h9
          cases h9
      exact ⟨by rw [hno]; rfl, Hp.le_trans hle hle6⟩
    · have h3 : d.st ≠ 3 := by simpa using h5
      have he : d.wk = 0 ∧ d.wn = 0 := by
        have : Eld.endB d.toE = ((d.wk == 0) && (d.wn == 0)) := by unfold Eld.endB; rw [if_neg (show ¬ d.toE.st = 3 from h3)]; rfl
        rw [this] at hend
        simpa using hend
      refine Ext.eqV rfl rfl rfl ?_
      conv => whnf
      refine ⟨fun _ => ?_, fun h7 => absurd h7 (by rw [he.1, he.2]; decide)⟩
      conv => whnf
      refine (iRunOk_con { d with wk := 2, wn := 1 } rp ⟨hsh.s0, hsh.s1, hsh.s2, hsh.s3⟩ _ ⟨hin.r0, hin.r1, hin.r2, hin.r3⟩).mono ?_
      rintro r h8 ⟨rfl, rfl⟩
      conv => whnf
      have hno : Eld.runB ({ d with wk := 2, wn := 1 } : RunD).toE = false := by
        cases e : Eld.runB ({ d with wk := 2, wn := 1 } : RunD).toE with
        | false => rfl
        | true =>
          have h9 := (Eld.run_parts e).2
          unfold Eld.endB at h9
          rw [if_neg (show ¬ ({ d with wk := 2, wn := 1 } : RunD).toE.st = 3 from h3)] at h9
          cases h9
      exact ⟨by rw [hno]; rfl, hle⟩
theorem walk (a0 : Option Addr) (len0 cap0 : Nat) (w : World) (h0 : Eld.Code0 w a0 len0 cap0) : Calls Try.prog 6 #[.slice a0 len0 cap0] w fun e w' => e = .returned (.bool true) ∧ Below w.heap.size w w' := by
  obtain ⟨cb, hc, hi⟩ := code_in h0
  exact ((law a0 len0 cap0  cb hc).run w hi).mono fun e w' ⟨v, h', he, hy, hi', hf⟩ => yes_below hi hi' hf he hy
set_option maxRecDepth 100000 in
theorem lifted (os : Os) (started : os.Started) (H : Type) (enc : TypeId × Value → H) :
    ReturnsInHanded {} Try.checked os 6 .any (Rows.fnRunEndedSpec.pre6 enc Try.prog Try.f6 Rows.fnRunEndedRow.domain false) (Rows.fnRunEndedSpec.post enc Try.prog Try.f6 false true false false) := by
  refine returnsInHanded_of_change (C := Try.checked) own started (by kernel_rfl) Try.func6
    (ChangeSpec.witness6 (enc := enc) (C := Try.checked) false ⟨#[], #[.slice none 0 0], []⟩ 8 (by kernel_rfl) (by kernel_rfl) (by kernel_rfl) (by kernel_rfl)) ?_
  intro W base args ds gs before hval0 hW hcnd _
  have hval : ∀ (j : Nat) t v, Try.f6.params[j]? = some t → args[j]? = some v → Value.okWide Try.prog W .any base t v := hval0
  have hW' := hW
  obtain ⟨p, q, hA0, hV, rfl, hfz, hnd⟩ := hW
  have hA : DataW.TrodAll enc Try.prog W 0 (fun _ => true) true Try.f6.params.toList args.toList ds p := hA0
  rw [Try.params6] at hA hval
  obtain ⟨v0, vs0, d0, ds0, p0, q0, hargs, rfl, rfl, h0, r0⟩ := trodAll_cons hA
  obtain ⟨rfl, rfl, rfl⟩ := trodAll_nil r0
  obtain rfl : args = #[v0] := by cases args; simp_all
  obtain ⟨rfl, rfl⟩ := trodVars_none hV
  obtain ⟨a0, len0, cap0, rfl⟩ := okWide_slice Try.underlying22 (hval 0 22 v0 rfl rfl)
  have k0 := h0
  have lt0 : ∀ x ∈ p0, x.block < W.heap.size := by obtain ⟨m, hm⟩ := k0; exact DataW.trod_lt m _ _ _ hm
  have w0 : Eld.Code0 W a0 len0 cap0 := by
    obtain ⟨fuel, hf⟩ := h0
    rcases open_ints Try.underlying22 Try.underlying5 (by kernel_rfl) hf with ⟨hcs, _⟩ | ⟨x, l, c, zs, hcs, _, hl, hm, hz, _, hcell, hwz⟩
    · simp [Value.cells] at hcs
      obtain ⟨rfl, rfl, rfl⟩ := hcs
      exact Eld.code_of_row (zs := []) (.inl ⟨rfl, rfl, rfl, rfl⟩)
    · simp [Value.cells] at hcs
      obtain ⟨rfl, rfl, rfl⟩ := hcs
      exact Eld.code_of_row (zs := zs) (.inr ⟨_, rfl, hl, hm, by simpa using hz, hcell, hwz⟩)
  clear hA0 hval0
  refine (walk a0 len0 cap0 W w0).mono fun e W' ⟨he, bel⟩ => ?_
  subst he
  exact ⟨_, rfl, _, _, _, [], _, [], hW', trodAll_mk1 (shut_bool Try.underlying4 _), (trodAll_cons_mk (Below.trod laidOut (by kernel_rfl) (of_decide_eq_true (by kernel_rfl)) k0 bel lt0) trodAll_mk0), rfl, bel.frame _, fun h => by cases h⟩
theorem over : Rows.fnRunEndedRow.holds Try.pinned (OpenSpec.ofChange Rows.fnRunEndedSpec) :=
  OpenClaim.holds_of_wide 6 Try.f6 rfl rfl rfl rfl rfl rfl rfl ⟨rfl, rfl, rfl, rfl, rfl⟩ rfl rfl rfl rfl rfl (by kernel_rfl) Try.func6 (by kernel_rfl)
    (of_decide_eq_true (by kernel_rfl)) (by unfold Func.isWrapper; first | (rw [if_pos (by decide +kernel)]; kernel_rfl) | (rw [if_neg (by decide +kernel)]; exact ⟨rfl, rfl⟩))
    (fun os started H enc _ => lifted os started H enc)
end FnRunEnded
/-- the given statement -/
theorem fnRunEnded_holds : Rows.FnRunEndedSaid := FnRunEnded.over
#print axioms fnRunEnded_holds
end Go.Proofs.Ytklgpkkghhaccaa
