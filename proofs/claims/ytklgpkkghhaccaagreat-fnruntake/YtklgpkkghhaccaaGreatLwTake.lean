/-
  FnRunTake answers true for every code: of a drawn run what is taken is the eldest that fits, and no more. No condition.
-/
import Derived.Test.YtklgpkkghhaccaaGreatRz
namespace Go.Proofs.YtklgpkkghhaccaaGreat
open Go.ChangeShapes Go.WideShapes Go.ChangeAt Go.RowKit Go.Joins
set_option maxRecDepth 100000
namespace FnRunTake
theorem take_at {d : RunD} {k : Int} (h : Eld.takeB d.toE k = true) : Eld.specRB d.toE = true ∧ ∃ i : Nat, ∃ hi : i < d.mail.length, Eld.sFirst d.toE k = ((i : Int), true) ∧ takeRD d k = { d with mail := d.mail.take i ++ d.mail.drop (i + 1) } ∧ Eld.takeV d.toE k = d.mail[i] := by
  have hs : Eld.specRB d.toE = true := by
    unfold Eld.takeB Eld.takeK at h
    by_cases c : Eld.specRB d.toE = true ∧ (0 ≤ k ∧ k ≤ 3)
    · exact c.1
    · rw [if_neg c] at h; cases h
  refine ⟨hs, ?_⟩
  unfold Eld.takeB at h
  cases hK : Eld.takeK d.toE k with
  | none => rw [hK] at h; cases h
  | some i =>
    have hi : i < d.mail.length := Eld.takeK_lt hK
    refine ⟨i, hi, ?_, ?_, ?_⟩
    · rw [Eld.sFirst_take, hK]
    · unfold takeRD Eld.takeD; rw [hK]; rfl
    · unfold Eld.takeV; rw [hK]
      show d.mail.getD i (0, 0) = _
      rw [List.getD_eq_getElem?_getD, List.getElem?_eq_getElem hi]; rfl
theorem Ext.noV {o : Oper} (ho : o.op = .buildSlice 23 0 #[]) {ev : Operand → Value} {h : Hp} {K : Option Value → Hp → Prop} {l : List Atom} (hown : Own h l) (k : ∀ g h', h.le h' → Own h' (.row ⟨26, 2, .slice (some ⟨g, 0, none⟩) 0 0, 0, []⟩ :: l) → K (some (.slice (some ⟨g, 0, none⟩) 0 0)) h') : Ext Tryz.prog (execOp ev o) h K :=
  Ext.buildSlice slVal ho hown [] (fun w => ⟨_, Tryz.zeroValue26 w, by kernel_rfl⟩) [] (by simp; rfl) rfl (by decide) k
theorem law (a : Option Addr) (len cap : Nat) (cb : Option (Nat × Obj)) (hc : CodeIn a len cap cb) :
    Con Tryz.prog 3 #[.slice a len cap] (cbHp cb) (Yes cb) := by
  refine Con.of_W (tb := tbE) (args := [.slice a len cap]) Tryz.func3 rfl Tryz.results3 Tryz.ntmps3 (by simp) (Tryz.call3 _) (tm := [(0, .v (.slice a len cap))]) rfl ?_
  refine vc_ok ⟨tbE_ok, _, Tryz.func3, Tryz.results3, Tryz.ntmps3⟩ 400 _ _ _ _ ?_
  conv => whnf
  refine Ext.len Tryz.underlying22 rfl rfl ?_
  conv => whnf
  refine ⟨fun _ => ?_, fun _ => ?_⟩ <;> conv => whnf
  · exact ⟨rfl, Hp.le_refl _⟩
  have ho : Own (cbHp cb) (cbAtoms cb ++ []) := by rw [List.append_nil]; exact cb_own cb
  refine (drawRunTake_con a len cap cb hc _ [] ho).mono ?_
  rintro r h1 ⟨d, rp, k, rfl, hd, ho1⟩
  have hin : RunIn h1 d rp := ho1.run fun x hx => List.mem_append_right _ (List.mem_append_left _ hx)
  have hsh := hd.sh
  conv => whnf
  refine (sRunTake_con d rp k hsh h1 hin _ ho1).mono ?_
  rintro r h2 ⟨q2, rfl, hle2, ho2⟩
  conv => whnf
  refine (iRunTake_con d rp k hsh h2 (runIn_le hin hle2) _ ho2).mono ?_
  rintro r h3 ⟨q3, rfl, hle3, ho3⟩
  have hin3 := runIn_le (runIn_le hin hle2) hle3
  generalize hB : Eld.takeB d.toE k = tb at ho2 ho3 ⊢
  generalize hV : Eld.takeV d.toE k = tv at ho2 ho3 ⊢
  have hT2 : RunIn h3 (takeRD d k) q2 := ho3.run fun x hx => List.mem_append_right _ (List.mem_append_left _ hx)
  have hT3 : RunIn h3 (takeRD d k) q3 := ho3.run fun x hx => List.mem_append_left _ hx
  have hend : (cbHp cb).le h3 := cb_le ho3.right.right
  conv => whnf
  refine Ext.neqB rfl rfl rfl ?_
  conv => whnf
  refine ⟨fun _ => ?_, fun h4 => absurd h4 (by simp)⟩
  conv => whnf
  refine Ext.neqV rfl rfl rfl ?_
  conv => whnf
  refine ⟨fun _ => ?_, fun h4 => absurd h4 (by simp)⟩
  conv => whnf
  refine (lvRun_con (takeRD d k) q3 q2 (takeRD_sh hsh k) h3 hT3 hT2).mono ?_
  rintro r h4 ⟨rfl, rfl⟩
  conv => whnf
  refine ⟨fun _ => ?_, fun h5 => absurd h5 (by simp)⟩
  conv => whnf
  refine ⟨fun htb => ?_, fun htb => ?_⟩ <;> conv => whnf
  · refine Ext.eqlB rfl rfl rfl ?_
    conv => whnf
    refine ⟨fun _ => ?_, fun h6 => absurd h6 (by simp)⟩
    conv => whnf
    refine Ext.eqV rfl rfl rfl ?_
    conv => whnf
    refine ⟨fun _ => ?_, fun h6 => absurd h6 (by simp)⟩
    conv => whnf
    refine (lvRun_con (takeRD d k) q3 q2 (takeRD_sh hsh k) h4 hT3 hT2).mono ?_
    rintro r h6 ⟨rfl, rfl⟩
    conv => whnf
    exact ⟨rfl, hend⟩
  have htb' : tb = true := by cases tb with
    | true => rfl
    | false => cases htb
  subst htb'
  obtain ⟨hsp, i, hi, hF, f3, f2⟩ := take_at hB
  have hMl : (d.mail.take i ++ d.mail.drop (i + 1)).length ≤ d.mail.length := by rw [List.length_append, List.length_take, List.length_drop]; omega
  have hMm : ∀ x ∈ d.mail.take i ++ d.mail.drop (i + 1), x ∈ d.mail := fun x hx => by
    rcases List.mem_append.1 hx with hx | hx
    · exact List.mem_of_mem_take hx
    · exact List.mem_of_mem_drop hx
  have hspM := ok_less hsp hMm hMl
  have hshT := takeRD_sh hsh k
  rw [f3] at hT2 hT3 ho3 hshT ⊢
  have hv : tv = d.mail[i] := hV.symm.trans f2
  subst hv
  refine (iRunFirst_con d rp k hsh h4 hin3).mono ?_
  rintro r h5 ⟨rfl, rfl⟩
  rw [hF]
  conv => whnf
  obtain ⟨g, hg⟩ := row_some hin3.r1 (by show 0 < d.mail.length; omega)
  have hcap : d.mail.length ≤ rp.k1 := row_cap hin3.r1
  have hid : ∀ {h' : Hp} {A : List Atom}, Own h' (A ++ (runRows ({ d with mail := d.mail.take i ++ d.mail.drop (i + 1) }, q3) ++ (runRows ({ d with mail := d.mail.take i ++ d.mail.drop (i + 1) }, q2) ++ (cbAtoms cb ++ (runRows (d, rp) ++ []))))) → RunIn h' d rp := fun o => o.run fun x hx => List.mem_append_right _ (List.mem_append_right _ (List.mem_append_right _ (List.mem_append_right _ (List.mem_append_left _ hx))))
  refine W.draw [(1, true), (2, true), (3, true), (4, true), (6, true), (7, true), (8, true), (9, true), (10, true), (0, false), (5, false), (11, false), (12, true)] [0] none 99 (by kernel_rfl) rfl (by kernel_rfl) mixed rfl (fun g e => by cases e) ?_
  refine vc_ok ⟨tbE_ok, _, Tryz.func3, Tryz.results3, Tryz.ntmps3⟩ 400 _ _ _ _ ?_
  conv => whnf
  refine Rd.sliceHi slVal rfl (by show Value.slice rp.a1 d.mail.length rp.k1 = _; rw [hg]) i (by omega) rfl ?_
  conv => whnf
  have hw : IntKind.i64.wrap ((i : Int) + 1) = ((i + 1 : Nat) : Int) := by rw [wrapN _ (by omega) (by have := hsh.s1; omega)]; omega
  rw [hw]
  refine Rd.sliceLo slVal rfl (by show Value.slice rp.a1 d.mail.length rp.k1 = _; rw [hg]) (i + 1) (by omega) rfl hcap fun ol hol => ?_
  conv => whnf
  refine Ext.noV rfl ho3 fun g6 h6 hle6 ho6 => ?_
  conv => whnf
  have hs1 := hsh.s1
  have hr6 : RowOk h6 (rowV (.slice (some ⟨g, 0, none⟩) d.mail.length rp.k1) d.mail) := by rw [← hg]; exact (hid (A := [_]) ho6).r1
  refine Ext.append (y := .slice (some ⟨g, 0, none⟩) i rp.k1) slVal rfl ho6 rfl rfl rfl rfl (Src.sub hr6 0 i rp.k1 (by omega) 0 (.inr (by omega))) (by show (0 + i) * 16 ≤ _; omega) (by show 0 + i ≤ _; unfold maxLen; omega) fun v7 h7 ho7 => ?_
  obtain ⟨a7, c7, hv7⟩ := RowOk.form' (ho7.ok _ List.mem_cons_self)
  dsimp only at hv7
  subst hv7
  conv => whnf
  have hr7 : RowOk h7 (rowV (.slice (some ⟨g, 0, none⟩) d.mail.length rp.k1) d.mail) := by rw [← hg]; exact (hid (A := [_]) ho7).r1
  refine Ext.append (y := .slice (some ⟨g, ol, none⟩) (d.mail.length - (i + 1)) (rp.k1 - (i + 1))) slVal rfl ho7 rfl rfl rfl rfl (Src.sub hr7 (i + 1) (d.mail.length - (i + 1)) (rp.k1 - (i + 1)) (by omega) ol hol) (by show (0 + i + (d.mail.length - (i + 1))) * 16 ≤ _; omega) (by show 0 + i + (d.mail.length - (i + 1)) ≤ _; unfold maxLen; omega) fun v8 h8 ho8 => ?_
  obtain ⟨a8, c8, hv8⟩ := RowOk.form' (ho8.ok _ List.mem_cons_self)
  dsimp only at hv8
  subst hv8
  have hM : RowOk h8 (rowV (.slice a8 (d.mail.take i ++ d.mail.drop (i + 1)).length c8) (d.mail.take i ++ d.mail.drop (i + 1))) := by
    have h9 := ho8.rowOk List.mem_cons_self
    have el : (d.mail.take i ++ d.mail.drop (i + 1)).length = 0 + i + (d.mail.length - (i + 1)) := by rw [List.length_append, List.length_take, List.length_drop]; omega
    have e : (⟨26, 2, .slice a8 (0 + i + (d.mail.length - (i + 1))) c8, 0 + i + (d.mail.length - (i + 1)), ([] ++ ((d.mail.drop 0).take i).flatMap encV) ++ ((d.mail.drop (i + 1)).take (d.mail.length - (i + 1))).flatMap encV⟩ : Row) = rowV (.slice a8 (d.mail.take i ++ d.mail.drop (i + 1)).length c8) (d.mail.take i ++ d.mail.drop (i + 1)) := by
      unfold rowV
      rw [el, List.take_of_length_le (l := d.mail.drop (i + 1)) (by rw [List.length_drop]; omega)]
      simp
    rw [← e]
    exact h9
  have elM : 0 + i + (d.mail.length - (i + 1)) = (d.mail.take i ++ d.mail.drop (i + 1)).length := by rw [List.length_append, List.length_take, List.length_drop]; omega
  have hrd : RunIn h8 d rp := hid (A := [_]) ho8
  have hrT : RunIn h8 { d with mail := d.mail.take i ++ d.mail.drop (i + 1) } q3 := ho8.run fun x hx => List.mem_cons_of_mem _ (List.mem_append_left _ hx)
  have hend8 : (cbHp cb).le h8 := cb_le ho8.tail.right.right
  rw [elM]
  conv => whnf
  have hrunM : Eld.runB ({ d with mail := d.mail.take i ++ d.mail.drop (i + 1) } : RunD).toE = true := by
    have := hspM
    unfold Eld.specRB at this
    rw [Bool.and_eq_true] at this
    exact this.1
  refine W.draw [(0, true), (1, true), (2, true), (3, true), (4, true), (5, true), (6, true), (7, true), (8, true), (9, true), (10, true), (11, false), (12, true), (13, true), (14, true), (15, true), (16, false), (17, true), (18, true), (19, true), (20, false), (21, true), (22, true)] [0, 3, 4, 5] (some h8) 99 (by kernel_rfl) rfl (by kernel_rfl) mixed rfl (fun g e => by cases e; exact Hp.le_refl _) ?_
  refine vc_ok ⟨tbE_ok, _, Tryz.func3, Tryz.results3, Tryz.ntmps3⟩ 400 _ _ _ _ ?_
  conv => whnf
  refine Rd.index slVal.u slVal.size rfl (by show Value.slice rp.a1 d.mail.length rp.k1 = _; rw [hg]) rfl i rfl hi ?_
  conv => whnf
  refine Rd.loadVal rfl hrd.r1 (by rw [hg]) hi rfl ?_
  conv => whnf
  refine Rd.eqV rfl rfl rfl ?_
  conv => whnf
  refine ⟨fun _ => ?_, fun h9 => absurd h9 (by simp)⟩
  conv => whnf
  refine (lvVals_con (d.mail.take i ++ d.mail.drop (i + 1)) q3.a1 a8 q3.k1 c8 hshT.s1 h8 hrT.r1 hM).mono ?_
  rintro r h9 ⟨rfl, rfl⟩
  refine ⟨Hp.le_refl _, ?_⟩
  conv => whnf
  refine ⟨fun _ => ?_, fun h10 => absurd h10 (by simp)⟩
  conv => whnf
  refine (lvRun_con d { q3 with a1 := rp.a1, k1 := rp.k1 } rp hsh h9 ⟨hrT.r0, hrd.r1, hrT.r2, hrT.r3⟩ hrd).mono ?_
  rintro r h10 ⟨rfl, rfl⟩
  refine ⟨Hp.le_refl _, ?_⟩
  conv => whnf
  refine ⟨fun _ => ?_, fun h11 => absurd h11 (by simp)⟩
  conv => whnf
  refine (iRunOk_con { d with mail := d.mail.take i ++ d.mail.drop (i + 1) } q3 hshT h10 hrT).mono ?_
  rintro r h11 ⟨rfl, rfl⟩
  rw [hrunM]
  refine ⟨Hp.le_refl _, ?_⟩
  conv => whnf
  exact ⟨rfl, hend8⟩
theorem walk (a0 : Option Addr) (len0 cap0 : Nat) (w : World) (h0 : Eld.Code0 w a0 len0 cap0) : Calls Tryz.prog 3 #[.slice a0 len0 cap0] w fun e w' => e = .returned (.bool true) ∧ Below w.heap.size w w' := by
  obtain ⟨cb, hc, hi⟩ := code_in h0
  exact ((law a0 len0 cap0  cb hc).run w hi).mono fun e w' ⟨v, h', he, hy, hi', hf⟩ => yes_below hi hi' hf he hy
set_option maxRecDepth 100000 in
theorem lifted (os : Os) (started : os.Started) (H : Type) (enc : TypeId × Value → H) :
    ReturnsInHanded {} Tryz.checked os 3 .any (Rows.fnRunTakeSpec.pre6 enc Tryz.prog Tryz.f3 Rows.fnRunTakeRow.domain false) (Rows.fnRunTakeSpec.post enc Tryz.prog Tryz.f3 false true false false) := by
  refine returnsInHanded_of_change (C := Tryz.checked) own started (by kernel_rfl) Tryz.func3
    (ChangeSpec.witness6 (enc := enc) (C := Tryz.checked) false ⟨#[], #[.slice none 0 0], []⟩ 8 (by kernel_rfl) (by kernel_rfl) (by kernel_rfl) (by kernel_rfl)) ?_
  intro W base args ds gs before hval0 hW hcnd _
  have hval : ∀ (j : Nat) t v, Tryz.f3.params[j]? = some t → args[j]? = some v → Value.okWide Tryz.prog W .any base t v := hval0
  have hW' := hW
  obtain ⟨p, q, hA0, hV, rfl, hfz, hnd⟩ := hW
  have hA : DataW.TrodAll enc Tryz.prog W 0 (fun _ => true) true Tryz.f3.params.toList args.toList ds p := hA0
  rw [Tryz.params3] at hA hval
  obtain ⟨v0, vs0, d0, ds0, p0, q0, hargs, rfl, rfl, h0, r0⟩ := trodAll_cons hA
  obtain ⟨rfl, rfl, rfl⟩ := trodAll_nil r0
  obtain rfl : args = #[v0] := by cases args; simp_all
  obtain ⟨rfl, rfl⟩ := trodVars_none hV
  obtain ⟨a0, len0, cap0, rfl⟩ := okWide_slice Tryz.underlying22 (hval 0 22 v0 rfl rfl)
  have k0 := h0
  have lt0 : ∀ x ∈ p0, x.block < W.heap.size := by obtain ⟨m, hm⟩ := k0; exact DataW.trod_lt m _ _ _ hm
  have w0 : Eld.Code0 W a0 len0 cap0 := by
    obtain ⟨fuel, hf⟩ := h0
    rcases open_ints Tryz.underlying22 Tryz.underlying5 (by kernel_rfl) hf with ⟨hcs, _⟩ | ⟨x, l, c, zs, hcs, _, hl, hm, hz, _, hcell, hwz⟩
    · simp [Value.cells] at hcs
      obtain ⟨rfl, rfl, rfl⟩ := hcs
      exact Eld.code_of_row (zs := []) (.inl ⟨rfl, rfl, rfl, rfl⟩)
    · simp [Value.cells] at hcs
      obtain ⟨rfl, rfl, rfl⟩ := hcs
      exact Eld.code_of_row (zs := zs) (.inr ⟨_, rfl, hl, hm, by simpa using hz, hcell, hwz⟩)
  clear hA0 hval0
  refine (walk a0 len0 cap0 W w0).mono fun e W' ⟨he, bel⟩ => ?_
  subst he
  exact ⟨_, rfl, _, _, _, [], _, [], hW', trodAll_mk1 (shut_bool Tryz.underlying4 _), (trodAll_cons_mk (Below.trod laidOut (by kernel_rfl) (of_decide_eq_true (by kernel_rfl)) k0 bel lt0) trodAll_mk0), rfl, bel.frame _, fun h => by cases h⟩
theorem over : Rows.fnRunTakeRow.holds Tryz.pinned (OpenSpec.ofChange Rows.fnRunTakeSpec) :=
  OpenClaim.holds_of_wide 3 Tryz.f3 rfl rfl rfl rfl rfl rfl rfl ⟨rfl, rfl, rfl, rfl, rfl⟩ rfl rfl rfl rfl rfl (by kernel_rfl) Tryz.func3 (by kernel_rfl)
    (of_decide_eq_true (by kernel_rfl)) (by unfold Func.isWrapper; first | (rw [if_pos (by decide +kernel)]; kernel_rfl) | (rw [if_neg (by decide +kernel)]; exact ⟨rfl, rfl⟩))
    (fun os started H enc _ => lifted os started H enc)
end FnRunTake
/-- the given statement -/
theorem fnRunTake_holds : Rows.FnRunTakeSaid := FnRunTake.over
#print axioms fnRunTake_holds
end Go.Proofs.YtklgpkkghhaccaaGreat
