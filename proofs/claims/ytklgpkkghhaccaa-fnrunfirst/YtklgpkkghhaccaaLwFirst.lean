/-
  FnRunFirst answers true for every code: of a drawn run the eldest value that fits is the first. No condition.
-/
import Derived.Test.YtklgpkkghhaccaaRj
namespace Go.Proofs.Ytklgpkkghhaccaa
open Go.ChangeShapes Go.WideShapes Go.ChangeAt Go.RowKit Go.Joins
set_option maxRecDepth 100000
namespace FnRunFirst
theorem law (a : Option Addr) (len cap : Nat) (cb : Option (Nat × Obj)) (hc : CodeIn a len cap cb) :
    Con Try.prog 3 #[.slice a len cap] (cbHp cb) (Yes cb) := by
  refine Con.of_W (tb := tbE) (args := [.slice a len cap]) Try.func3 rfl Try.results3 Try.ntmps3 (by simp) (Try.call3 _) (tm := [(0, .v (.slice a len cap))]) rfl ?_
  refine vc_ok ⟨tbE_ok, _, Try.func3, Try.results3, Try.ntmps3⟩ 400 _ _ _ _ ?_
  conv => whnf
  refine Ext.len Try.underlying22 rfl rfl ?_
  conv => whnf
  refine ⟨fun _ => ?_, fun _ => ?_⟩ <;> conv => whnf
  · exact ⟨rfl, Hp.le_refl _⟩
  have ho : Own (cbHp cb) (cbAtoms cb ++ []) := by rw [List.append_nil]; exact cb_own cb
  refine (drawRunFirst_con a len cap cb hc _ [] ho).mono ?_
  rintro r h1 ⟨d, rp, k, rfl, hd, ho1⟩
  have hin : RunIn h1 d rp := ho1.run fun x hx => List.mem_append_right _ (List.mem_append_left _ hx)
  have hsh := hd.sh
  have hle : (cbHp cb).le h1 := cb_le ho1
  clear ho1 ho
  conv => whnf
  refine (sRunFirst_con d rp k hsh h1 hin).mono ?_
  rintro r h2 ⟨rfl, rfl⟩
  conv => whnf
  refine (iRunFirst_con d rp k hsh h2 hin).mono ?_
  rintro r h3 ⟨rfl, rfl⟩
  conv => whnf
  generalize hF : Eld.sFirst d.toE k = F
  obtain ⟨m, b⟩ := F
  dsimp only
  refine Ext.neqB rfl rfl rfl ?_
  conv => whnf
  refine ⟨fun _ => ?_, fun h4 => absurd h4 (by simp)⟩
  conv => whnf
  refine ⟨fun _ => ?_, fun h4 => absurd h4 (by simp)⟩
  conv => whnf
  refine (sRunOk_con d rp hsh h3 hin).mono ?_
  rintro r h4 ⟨rfl, rfl⟩
  conv => whnf
  refine ⟨fun hok => ?_, fun hok => ?_⟩ <;> conv => whnf
  · have hok' : Eld.specRB d.toE = true := by simpa using hok
    refine ⟨fun hk0 => ?_, fun hk0 => ?_⟩ <;> conv => whnf
    · refine ⟨fun hk1 => ?_, fun hk1 => ?_⟩ <;> conv => whnf
      · refine Ext.eqlB rfl rfl rfl ?_
        conv => whnf
        refine ⟨fun _ => ?_, fun h9 => absurd h9 (by simp)⟩
        conv => whnf
        exact ⟨congrArg Value.bool (by simp), hle⟩
      · have hrun : Eld.runB d.toE = true := by unfold Eld.specRB at hok'; rw [Bool.and_eq_true] at hok'; exact hok'.1
        clear hok hok'
        refine W.cut [(3, .p 0 0), (4, .v (.int .i64 k)), (7, .v (.int .i64 m)), (8, .v (.bool b)), (9, .v (.int .i64 (0 : Nat)))] [⟨28, d.cells rp⟩] [] ⟨rfl, rfl, rfl, rfl, rfl, trivial⟩ (List.append_nil _).symm rfl ⟨_, rfl⟩ ?_
        refine W.loop (α := Nat) (fun x => [(3, .p 0 0), (4, .v (.int .i64 k)), (7, .v (.int .i64 m)), (8, .v (.bool b)), (9, .v (.int .i64 (x : Int)))]) (fun _ => [⟨28, d.cells rp⟩])
          (fun x h' => h' = h4 ∧ x ≤ d.mail.length ∧ ∀ j (hj : j < d.mail.length), j < x → Eld.AH.fitsB d.mail[j].1 d.mail[j].2 k = false) (fun x => d.mail.length - x) ?_ 0 h4 ⟨rfl, Nat.zero_le _, fun j _ hj => absurd hj (Nat.not_lt_zero _)⟩
        rintro i hx ⟨rfl, hi, hno⟩ ih
        refine vc_ok ⟨tbE_ok, _, Try.func3, Try.results3, Try.ntmps3⟩ 400 _ _ _ _ ?_
        conv => whnf
        refine ⟨fun h5 => ?_, fun h5 => ?_⟩ <;> conv => whnf
        · have hlt : i < d.mail.length := by simp at h5; omega
          obtain ⟨g, hg⟩ := row_some hin.r1 (by show 0 < d.mail.length; omega)
          refine Ext.index slVal.u slVal.size rfl (by show Value.slice rp.a1 d.mail.length rp.k1 = _; rw [hg]) rfl i rfl hlt ?_
          conv => whnf
          refine Ext.loadVal rfl hin.r1 (by rw [hg]) hlt rfl ?_
          conv => whnf
          refine (iFits_con d.mail[i] k _).mono ?_
          rintro r h6 ⟨rfl, rfl⟩
          conv => whnf
          refine ⟨fun h7 => ?_, fun h7 => ?_⟩ <;> conv => whnf
          · have hs := Eld.first_some (d := d.toE) hrun hlt h7 hno
            rw [hF] at hs
            cases hs
            refine ⟨fun _ => ?_, fun h9 => absurd h9 (by simp)⟩
            conv => whnf
            exact ⟨congrArg Value.bool (by simp), hle⟩
          · have hw : IntKind.i64.wrap ((i : Int) + 1) = ((i + 1 : Nat) : Int) := by rw [wrapN _ (by omega) (by have := hsh.s1; omega)]; omega
            rw [hw]
            refine W.back (ih (i + 1) _ ⟨rfl, hlt, fun j hj hj2 => ?_⟩ (by omega)) [] (by exact ⟨rfl, rfl, rfl, rfl, rfl, trivial⟩) rfl rfl
            by_cases e : j = i
            · subst e; exact h7
            · exact hno j hj (by omega)
        · have hge : i = d.mail.length := by simp at h5; omega
          have hs := Eld.first_none (d := d.toE) (kind := k) hrun (fun j hj => hno j hj (by rw [hge]; exact hj))
          rw [hF] at hs
          cases hs
          exact ⟨rfl, hle⟩
    · refine Ext.eqlB rfl rfl rfl ?_
      conv => whnf
      refine ⟨fun _ => ?_, fun h9 => absurd h9 (by simp)⟩
      conv => whnf
      exact ⟨congrArg Value.bool (by simp), hle⟩
  · refine Ext.eqlB rfl rfl rfl ?_
    conv => whnf
    refine ⟨fun _ => ?_, fun h9 => absurd h9 (by simp)⟩
    conv => whnf
    exact ⟨congrArg Value.bool (by simp), hle⟩
theorem walk (a0 : Option Addr) (len0 cap0 : Nat) (w : World) (h0 : Eld.Code0 w a0 len0 cap0) : Calls Try.prog 3 #[.slice a0 len0 cap0] w fun e w' => e = .returned (.bool true) ∧ Below w.heap.size w w' := by
  obtain ⟨cb, hc, hi⟩ := code_in h0
  exact ((law a0 len0 cap0  cb hc).run w hi).mono fun e w' ⟨v, h', he, hy, hi', hf⟩ => yes_below hi hi' hf he hy
set_option maxRecDepth 100000 in
theorem lifted (os : Os) (started : os.Started) (H : Type) (enc : TypeId × Value → H) :
    ReturnsInHanded {} Try.checked os 3 .any (Rows.fnRunFirstSpec.pre6 enc Try.prog Try.f3 Rows.fnRunFirstRow.domain false) (Rows.fnRunFirstSpec.post enc Try.prog Try.f3 false true false false) := by
  refine returnsInHanded_of_change (C := Try.checked) own started (by kernel_rfl) Try.func3
    (ChangeSpec.witness6 (enc := enc) (C := Try.checked) false ⟨#[], #[.slice none 0 0], []⟩ 8 (by kernel_rfl) (by kernel_rfl) (by kernel_rfl) (by kernel_rfl)) ?_
  intro W base args ds gs before hval0 hW hcnd _
  have hval : ∀ (j : Nat) t v, Try.f3.params[j]? = some t → args[j]? = some v → Value.okWide Try.prog W .any base t v := hval0
  have hW' := hW
  obtain ⟨p, q, hA0, hV, rfl, hfz, hnd⟩ := hW
  have hA : DataW.TrodAll enc Try.prog W 0 (fun _ => true) true Try.f3.params.toList args.toList ds p := hA0
  rw [Try.params3] at hA hval
  obtain ⟨v0, vs0, d0, ds0, p0, q0, hargs, rfl, rfl, h0, r0⟩ := trodAll_cons hA
  obtain ⟨rfl, rfl, rfl⟩ := trodAll_nil r0
  obtain rfl : args = #[v0] := by cases args; simp_all
  obtain ⟨rfl, rfl⟩ := trodVars_none hV
  obtain ⟨a0, len0, cap0, rfl⟩ := okWide_slice Try.underlying22 (hval 0 22 v0 rfl rfl)
  have k0 := h0
  have lt0 : ∀ x ∈ p0, x.block < W.heap.size := by obtain ⟨m, hm⟩ := k0; exact DataW.trod_lt m _ _ _ hm
  have w0 : Eld.Code0 W a0 len0 cap0 := by
    obtain ⟨fuel, hf⟩ := h0
    rcases open_ints Try.underlying22 Try.underlying5 (by kernel_rfl) hf with ⟨hcs, _⟩ | ⟨x, l, c, zs, hcs, _, hl, hm, hz, _, hcell, hwz⟩
    · simp [Value.cells] at hcs
      obtain ⟨rfl, rfl, rfl⟩ := hcs
      exact Eld.code_of_row (zs := []) (.inl ⟨rfl, rfl, rfl, rfl⟩)
    · simp [Value.cells] at hcs
      obtain ⟨rfl, rfl, rfl⟩ := hcs
      exact Eld.code_of_row (zs := zs) (.inr ⟨_, rfl, hl, hm, by simpa using hz, hcell, hwz⟩)
  clear hA0 hval0
  refine (walk a0 len0 cap0 W w0).mono fun e W' ⟨he, bel⟩ => ?_
  subst he
  exact ⟨_, rfl, _, _, _, [], _, [], hW', trodAll_mk1 (shut_bool Try.underlying4 _), (trodAll_cons_mk (Below.trod laidOut (by kernel_rfl) (of_decide_eq_true (by kernel_rfl)) k0 bel lt0) trodAll_mk0), rfl, bel.frame _, fun h => by cases h⟩
theorem over : Rows.fnRunFirstRow.holds Try.pinned (OpenSpec.ofChange Rows.fnRunFirstSpec) :=
  OpenClaim.holds_of_wide 3 Try.f3 rfl rfl rfl rfl rfl rfl rfl ⟨rfl, rfl, rfl, rfl, rfl⟩ rfl rfl rfl rfl rfl (by kernel_rfl) Try.func3 (by kernel_rfl)
    (of_decide_eq_true (by kernel_rfl)) (by unfold Func.isWrapper; first | (rw [if_pos (by decide +kernel)]; kernel_rfl) | (rw [if_neg (by decide +kernel)]; exact ⟨rfl, rfl⟩))
    (fun os started H enc _ => lifted os started H enc)
end FnRunFirst
/-- the given statement -/
theorem fnRunFirst_holds : Rows.FnRunFirstSaid := FnRunFirst.over
#print axioms fnRunFirst_holds
end Go.Proofs.Ytklgpkkghhaccaa
