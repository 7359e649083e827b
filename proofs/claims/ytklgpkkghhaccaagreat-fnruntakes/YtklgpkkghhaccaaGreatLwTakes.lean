/-
  FnRunTakes answers true for every code: of a drawn run all values are taken in the order in which they came. No condition.
-/
import Derived.Test.YtklgpkkghhaccaaGreatRz
namespace Go.Proofs.YtklgpkkghhaccaaGreat
open Go.ChangeShapes Go.WideShapes Go.ChangeAt Go.RowKit Go.Joins
set_option maxRecDepth 100000
namespace FnRunTakes
/-- what is left behind the first i -/
def dropD (d : RunD) (i : Nat) : RunD := { d with mail := d.mail.drop i }
theorem drop_zero (d : RunD) : dropD d 0 = d := rfl
theorem drop_take {d : RunD} (h : Eld.specRB d.toE = true) {i : Nat} (hi : i < d.mail.length) :
    takeRD (dropD d i) 0 = dropD d (i + 1) ∧ Eld.takeV (dropD d i).toE 0 = d.mail[i] ∧ Eld.takeB (dropD d i).toE 0 = true := by
  have hok := ok_less h (M := d.mail.drop i) (fun x hx => List.mem_of_mem_drop hx) (by rw [List.length_drop]; omega)
  have hd : d.mail.drop i = d.mail[i] :: d.mail.drop (i + 1) := List.drop_eq_getElem_cons hi
  have hfst : Eld.firstP 0 (d.mail.drop i) = some 0 := by
    refine Eld.firstP_some (by rw [List.length_drop]; omega) (fun j hj hjl => by omega) ?_
    simp [Eld.fitQ]
  have hK : Eld.takeK (dropD d i).toE 0 = some 0 := by
    unfold Eld.takeK
    rw [if_pos ⟨hok, by omega, by omega⟩]
    exact hfst
  refine ⟨?_, ?_, ?_⟩
  · unfold takeRD Eld.takeD
    rw [hK]
    show ({ d with mail := (d.mail.drop i).take 0 ++ (d.mail.drop i).drop (0 + 1) } : RunD) = { d with mail := d.mail.drop (i + 1) }
    rw [hd]; simp
  · unfold Eld.takeV
    rw [hK]
    show (d.mail.drop i).getD 0 (0, 0) = _
    rw [hd]; rfl
  · unfold Eld.takeB
    rw [hK]; rfl
theorem drop_none (d : RunD) : Eld.takeB (dropD d d.mail.length).toE 0 = false := by
  have hn : Eld.firstP 0 (d.mail.drop d.mail.length) = none := Eld.firstP_none fun j hj => by simp at hj
  unfold Eld.takeB Eld.takeK
  split
  · show (Eld.firstP 0 (d.mail.drop d.mail.length)).isSome = false
    rw [hn]; rfl
  · rfl
theorem law (a : Option Addr) (len cap : Nat) (cb : Option (Nat × Obj)) (hc : CodeIn a len cap cb) :
    Con Tryz.prog 4 #[.slice a len cap] (cbHp cb) (Yes cb) := by
  refine Con.of_W (tb := tbE) (args := [.slice a len cap]) Tryz.func4 rfl Tryz.results4 Tryz.ntmps4 (by simp) (Tryz.call4 _) (tm := [(0, .v (.slice a len cap))]) rfl ?_
  refine vc_ok ⟨tbE_ok, _, Tryz.func4, Tryz.results4, Tryz.ntmps4⟩ 400 _ _ _ _ ?_
  conv => whnf
  refine Ext.len Tryz.underlying22 rfl rfl ?_
  conv => whnf
  refine ⟨fun _ => ?_, fun _ => ?_⟩ <;> conv => whnf
  · exact ⟨rfl, Hp.le_refl _⟩
  have ho : Own (cbHp cb) (cbAtoms cb ++ []) := by rw [List.append_nil]; exact cb_own cb
  refine (drawRunTake_con a len cap cb hc _ [] ho).mono ?_
  rintro r h1 ⟨d, rp, k, rfl, hd, ho1⟩
  have hin : RunIn h1 d rp := ho1.run fun x hx => List.mem_append_right _ (List.mem_append_left _ hx)
  have hsh := hd.sh
  conv => whnf
  refine (sRunTake_con d rp k hsh h1 hin _ ho1).mono ?_
  rintro r h2 ⟨q2, rfl, hle2, ho2⟩
  conv => whnf
  refine (iRunTake_con d rp k hsh h2 (runIn_le hin hle2) _ ho2).mono ?_
  rintro r h3 ⟨q3, rfl, hle3, ho3⟩
  have hin3 := runIn_le (runIn_le hin hle2) hle3
  generalize hB : Eld.takeB d.toE k = tb at ho2 ho3 ⊢
  generalize hV : Eld.takeV d.toE k = tv at ho2 ho3 ⊢
  have hT2 : RunIn h3 (takeRD d k) q2 := ho3.run fun x hx => List.mem_append_right _ (List.mem_append_left _ hx)
  have hT3 : RunIn h3 (takeRD d k) q3 := ho3.run fun x hx => List.mem_append_left _ hx
  have hend : (cbHp cb).le h3 := cb_le ho3.right.right
  conv => whnf
  refine Ext.neqB rfl rfl rfl ?_
  conv => whnf
  refine ⟨fun _ => ?_, fun h4 => absurd h4 (by simp)⟩
  conv => whnf
  refine Ext.neqV rfl rfl rfl ?_
  conv => whnf
  refine ⟨fun _ => ?_, fun h4 => absurd h4 (by simp)⟩
  conv => whnf
  refine (lvRun_con (takeRD d k) q3 q2 (takeRD_sh hsh k) h3 hT3 hT2).mono ?_
  rintro r h4 ⟨rfl, rfl⟩
  conv => whnf
  refine ⟨fun _ => ?_, fun h5 => absurd h5 (by simp)⟩
  conv => whnf
  refine (sRunOk_con d rp hsh h4 hin3).mono ?_
  rintro r h5 ⟨rfl, rfl⟩
  conv => whnf
  refine ⟨fun hok => ?_, fun hok => ?_⟩ <;> conv => whnf
  · refine Ext.eqlB rfl rfl rfl ?_
    conv => whnf
    refine ⟨fun _ => ?_, fun h6 => absurd h6 (by simp)⟩
    conv => whnf
    refine Ext.eqV rfl rfl rfl ?_
    conv => whnf
    refine ⟨fun _ => ?_, fun h6 => absurd h6 (by simp)⟩
    conv => whnf
    refine (lvRun_con (takeRD d k) q3 q2 (takeRD_sh hsh k) h5 hT3 hT2).mono ?_
    rintro r h6 ⟨rfl, rfl⟩
    conv => whnf
    exact ⟨rfl, hend⟩
  · have hsp : Eld.specRB d.toE = true := by simpa using hok
    clear hok
    refine W.cut [(3, .p 0 0), (11, .p 5 0), (12, .v (.int .i64 (0 : Nat)))] [⟨28, d.cells rp⟩, ⟨28, (takeRD d k).cells q2⟩, ⟨26, encV tv⟩, ⟨28, (takeRD d k).cells q3⟩, ⟨26, encV tv⟩, ⟨28, (dropD d 0).cells rp⟩] [] ⟨rfl, rfl, rfl, trivial⟩ rfl rfl ⟨_, rfl⟩ ?_
    refine W.loop (α := Nat × RunP) (fun x => [(3, .p 0 0), (11, .p 5 0), (12, .v (.int .i64 (x.1 : Int)))]) (fun x => [⟨28, d.cells rp⟩, ⟨28, (takeRD d k).cells q2⟩, ⟨26, encV tv⟩, ⟨28, (takeRD d k).cells q3⟩, ⟨26, encV tv⟩, ⟨28, (dropD d x.1).cells x.2⟩])
      (fun x h' => x.1 ≤ d.mail.length ∧ RunIn h' d rp ∧ RunIn h' (dropD d x.1) x.2 ∧ (cbHp cb).le h' ∧ ∃ L, Own h' L) (fun x => d.mail.length - x.1) ?_ (0, rp) _ ⟨Nat.zero_le _, hin3, hin3, hend, _, ho3⟩
    rintro ⟨i, q⟩ h5 ⟨hi, hinr, hinq, hle5, L, hoL⟩ ih
    dsimp only at hi hinr hinq hle5 hoL ⊢
    have hshq : (dropD d i).Sh := ⟨hsh.s0, by show (d.mail.drop i).length ≤ _; rw [List.length_drop]; have := hsh.s1; omega, hsh.s2, hsh.s3⟩
    refine vc_ok ⟨tbE_ok, _, Tryz.func4, Tryz.results4, Tryz.ntmps4⟩ 400 _ _ _ _ ?_
    conv => whnf
    refine ⟨fun h6 => ?_, fun h6 => ?_⟩ <;> conv => whnf
    · have hlt : i < d.mail.length := by simp at h6; omega
      obtain ⟨g, hg⟩ := row_some hinr.r1 (by show 0 < d.mail.length; omega)
      obtain ⟨e1, e2, e3⟩ := drop_take hsp hlt
      refine (iRunTake_con (dropD d i) q 0 hshq h5 hinq L hoL).mono ?_
      rintro r h8 ⟨q8, rfl, hle8, ho8⟩
      rw [e1, e2, e3]
      conv => whnf
      have hinr8 := runIn_le hinr hle8
      refine W.draw [(0, true), (1, true), (2, true), (3, true), (4, true), (5, true), (6, true), (7, true), (8, true), (9, true), (10, true)] [0, 7] (some h8) 99 (by kernel_rfl) rfl (by kernel_rfl) mixed rfl (fun g e => by cases e; exact Hp.le_refl _) ?_
      refine vc_ok ⟨tbE_ok, _, Tryz.func4, Tryz.results4, Tryz.ntmps4⟩ 400 _ _ _ _ ?_
      conv => whnf
      refine ⟨fun _ => ?_, fun h9 => absurd h9 (by simp)⟩
      conv => whnf
      refine Rd.index slVal.u slVal.size rfl (by show Value.slice rp.a1 d.mail.length rp.k1 = _; rw [hg]) rfl i rfl hlt ?_
      conv => whnf
      refine Rd.loadVal rfl hinr8.r1 (by rw [hg]) hlt rfl ?_
      conv => whnf
      refine Rd.neqV rfl rfl rfl ?_
      conv => whnf
      refine ⟨fun h9 => absurd h9 (by simp), fun _ => ?_⟩
      conv => whnf
      have hw : IntKind.i64.wrap ((i : Int) + 1) = ((i + 1 : Nat) : Int) := by rw [wrapN _ (by omega) (by have := hsh.s1; omega)]; omega
      rw [hw]
      rw [e1] at ho8
      exact W.back (ih (i + 1, q8) h8 ⟨hlt, hinr8, ho8.run fun x hx => List.mem_append_left _ hx, Hp.le_trans hle5 hle8, _, ho8⟩ (by dsimp only; omega)) [⟨28, (dropD d (i + 1)).cells q8⟩, ⟨26, encV d.mail[i]⟩] (by exact ⟨rfl, rfl, rfl, trivial⟩) rfl rfl
    · have hge : i = d.mail.length := by simp at h6; omega
      subst hge
      refine (iRunTake_con (dropD d d.mail.length) q 0 hshq h5 hinq L hoL).mono ?_
      rintro r h8 ⟨q8, rfl, hle8, ho8⟩
      rw [drop_none]
      conv => whnf
      refine ⟨fun _ => ?_, fun h9 => absurd h9 (by simp)⟩
      conv => whnf
      refine ⟨congrArg Value.bool ?_, Hp.le_trans hle5 hle8⟩
      have : (dropD d d.mail.length).mail.length = 0 := by show (d.mail.drop d.mail.length).length = 0; simp
      simp [this]
theorem walk (a0 : Option Addr) (len0 cap0 : Nat) (w : World) (h0 : Eld.Code0 w a0 len0 cap0) : Calls Tryz.prog 4 #[.slice a0 len0 cap0] w fun e w' => e = .returned (.bool true) ∧ Below w.heap.size w w' := by
  obtain ⟨cb, hc, hi⟩ := code_in h0
  exact ((law a0 len0 cap0  cb hc).run w hi).mono fun e w' ⟨v, h', he, hy, hi', hf⟩ => yes_below hi hi' hf he hy
set_option maxRecDepth 100000 in
theorem lifted (os : Os) (started : os.Started) (H : Type) (enc : TypeId × Value → H) :
    ReturnsInHanded {} Tryz.checked os 4 .any (Rows.fnRunTakesSpec.pre6 enc Tryz.prog Tryz.f4 Rows.fnRunTakesRow.domain false) (Rows.fnRunTakesSpec.post enc Tryz.prog Tryz.f4 false true false false) := by
  refine returnsInHanded_of_change (C := Tryz.checked) own started (by kernel_rfl) Tryz.func4
    (ChangeSpec.witness6 (enc := enc) (C := Tryz.checked) false ⟨#[], #[.slice none 0 0], []⟩ 8 (by kernel_rfl) (by kernel_rfl) (by kernel_rfl) (by kernel_rfl)) ?_
  intro W base args ds gs before hval0 hW hcnd _
  have hval : ∀ (j : Nat) t v, Tryz.f4.params[j]? = some t → args[j]? = some v → Value.okWide Tryz.prog W .any base t v := hval0
  have hW' := hW
  obtain ⟨p, q, hA0, hV, rfl, hfz, hnd⟩ := hW
  have hA : DataW.TrodAll enc Tryz.prog W 0 (fun _ => true) true Tryz.f4.params.toList args.toList ds p := hA0
  rw [Tryz.params4] at hA hval
  obtain ⟨v0, vs0, d0, ds0, p0, q0, hargs, rfl, rfl, h0, r0⟩ := trodAll_cons hA
  obtain ⟨rfl, rfl, rfl⟩ := trodAll_nil r0
  obtain rfl : args = #[v0] := by cases args; simp_all
  obtain ⟨rfl, rfl⟩ := trodVars_none hV
  obtain ⟨a0, len0, cap0, rfl⟩ := okWide_slice Tryz.underlying22 (hval 0 22 v0 rfl rfl)
  have k0 := h0
  have lt0 : ∀ x ∈ p0, x.block < W.heap.size := by obtain ⟨m, hm⟩ := k0; exact DataW.trod_lt m _ _ _ hm
  have w0 : Eld.Code0 W a0 len0 cap0 := by
    obtain ⟨fuel, hf⟩ := h0
    rcases open_ints Tryz.underlying22 Tryz.underlying5 (by kernel_rfl) hf with ⟨hcs, _⟩ | ⟨x, l, c, zs, hcs, _, hl, hm, hz, _, hcell, hwz⟩
    · simp [Value.cells] at hcs
      obtain ⟨rfl, rfl, rfl⟩ := hcs
      exact Eld.code_of_row (zs := []) (.inl ⟨rfl, rfl, rfl, rfl⟩)
    · simp [Value.cells] at hcs
      obtain ⟨rfl, rfl, rfl⟩ := hcs
      exact Eld.code_of_row (zs := zs) (.inr ⟨_, rfl, hl, hm, by simpa using hz, hcell, hwz⟩)
  clear hA0 hval0
  refine (walk a0 len0 cap0 W w0).mono fun e W' ⟨he, bel⟩ => ?_
  subst he
  exact ⟨_, rfl, _, _, _, [], _, [], hW', trodAll_mk1 (shut_bool Tryz.underlying4 _), (trodAll_cons_mk (Below.trod laidOut (by kernel_rfl) (of_decide_eq_true (by kernel_rfl)) k0 bel lt0) trodAll_mk0), rfl, bel.frame _, fun h => by cases h⟩
theorem over : Rows.fnRunTakesRow.holds Tryz.pinned (OpenSpec.ofChange Rows.fnRunTakesSpec) :=
  OpenClaim.holds_of_wide 4 Tryz.f4 rfl rfl rfl rfl rfl rfl rfl ⟨rfl, rfl, rfl, rfl, rfl⟩ rfl rfl rfl rfl rfl (by kernel_rfl) Tryz.func4 (by kernel_rfl)
    (of_decide_eq_true (by kernel_rfl)) (by unfold Func.isWrapper; first | (rw [if_pos (by decide +kernel)]; kernel_rfl) | (rw [if_neg (by decide +kernel)]; exact ⟨rfl, rfl⟩))
    (fun os started H enc _ => lifted os started H enc)
end FnRunTakes
/-- the given statement -/
theorem fnRunTakes_holds : Rows.FnRunTakesSaid := FnRunTakes.over
#print axioms fnRunTakes_holds
end Go.Proofs.YtklgpkkghhaccaaGreat
