/-
  FnRunKeeps answers true for every code: of a drawn run all values of one kind are taken in order. No condition.
-/
import Derived.Test.YtklgpkkghhaccaaRk
namespace Go.Proofs.Ytklgpkkghhaccaa
open Go.ChangeShapes Go.WideShapes Go.ChangeAt Go.RowKit Go.Joins
set_option maxRecDepth 100000
namespace FnRunKeeps
/-- what is left behind the first i -/
def leftM (L : List (Int × Int)) (k : Int) (i : Nat) : List (Int × Int) := (L.take i).filter (fun x => x.1 != k) ++ L.drop i
def leftD (d : RunD) (k : Int) (i : Nat) : RunD := { d with mail := leftM d.mail k i }
theorem left_zero (d : RunD) (k : Int) : leftD d k 0 = d := by unfold leftD leftM; simp
theorem left_mem {L : List (Int × Int)} {k : Int} {i : Nat} {x : Int × Int} (h : x ∈ leftM L k i) : x ∈ L := by
  rcases List.mem_append.1 h with h | h
  · exact List.mem_of_mem_take (List.mem_filter.1 h).1
  · exact List.mem_of_mem_drop h
theorem left_len (L : List (Int × Int)) (k : Int) (i : Nat) : (leftM L k i).length ≤ L.length := by
  unfold leftM
  rw [List.length_append, List.length_drop]
  have := List.length_filter_le (fun x : Int × Int => x.1 != k) (L.take i)
  rw [List.length_take] at this
  omega
theorem ok_less {d : RunD} (h : Eld.specRB d.toE = true) {M : List (Int × Int)} (hm : ∀ x ∈ M, x ∈ d.mail) (hl : M.length ≤ d.mail.length) : Eld.specRB ({ d with mail := M } : RunD).toE = true := by
  unfold Eld.specRB Eld.runB at h ⊢
  simp only [Bool.and_eq_true] at h ⊢
  obtain ⟨⟨h1, h2, h3, h4, h5, h6, h7, h8⟩, h9⟩ := h
  refine ⟨⟨h1, h2, h3, ?_, h5, h6, h7, ?_⟩, h9⟩
  · unfold Eld.mailB Eld.allOk at h4 ⊢
    rw [Bool.and_eq_true, decide_eq_true_eq, List.all_eq_true] at h4 ⊢
    exact ⟨Nat.le_trans hl h4.1, fun x hx => h4.2 x (hm x hx)⟩
  · unfold Eld.endB at h8 ⊢
    by_cases h3' : d.st = 3
    · rw [if_pos (show d.toE.st = 3 from h3')] at h8
      rw [if_pos (show ({ d with mail := M } : RunD).toE.st = 3 from h3')]
      simp only [Bool.and_eq_true, beq_iff_eq] at h8 ⊢
      have h0 : d.mail.length = 0 := h8.1
      exact ⟨by show M.length = 0; omega, h8.2⟩
    · rw [if_neg (show ¬ d.toE.st = 3 from h3')] at h8
      rw [if_neg (show ¬ ({ d with mail := M } : RunD).toE.st = 3 from h3')]
      exact h8
theorem left_take {d : RunD} (h : Eld.specRB d.toE = true) {k : Int} (h0 : 1 ≤ k) (h3 : k ≤ 3) {i : Nat} (hi : i < d.mail.length) (e : d.mail[i].1 = k) :
    takeRD (leftD d k i) k = leftD d k (i + 1) ∧ Eld.takeV (leftD d k i).toE k = d.mail[i] ∧ Eld.takeB (leftD d k i).toE k = true := by
  have hok := ok_less h (M := leftM d.mail k i) (fun x hx => left_mem hx) (left_len _ _ _)
  have hd : d.mail.drop i = d.mail[i] :: d.mail.drop (i + 1) := (List.drop_eq_getElem_cons hi)
  have ht : d.mail.take (i + 1) = d.mail.take i ++ [d.mail[i]] := by rw [List.take_succ_eq_append_getElem hi]
  have hM : leftM d.mail k i = (d.mail.take i).filter (fun x => x.1 != k) ++ d.mail[i] :: d.mail.drop (i + 1) := by unfold leftM; rw [hd]
  have hM1 : leftM d.mail k (i + 1) = (d.mail.take i).filter (fun x => x.1 != k) ++ d.mail.drop (i + 1) := by
    unfold leftM
    rw [ht, List.filter_append]
    simp [e]
  have hF : ∀ x ∈ (d.mail.take i).filter (fun x => x.1 != k), x.1 ≠ k := fun x hx => by simpa using (List.mem_filter.1 hx).2
  generalize (d.mail.take i).filter (fun x => x.1 != k) = F at hM hM1 hF
  have hfst : Eld.firstP k (leftM d.mail k i) = some F.length := by
    rw [hM]
    refine Eld.firstP_some (by simp; omega) (fun j hj hjl => ?_) ?_
    · rw [List.getElem_append_left hjl]
      have := hF _ (List.getElem_mem hjl)
      unfold Eld.fitQ
      simp only [Bool.or_eq_false_iff, beq_eq_false_iff_ne]
      exact ⟨by omega, this⟩
    · rw [List.getElem_append_right (Nat.le_refl _)]
      simp [Eld.fitQ, e]
  have hK : Eld.takeK (leftD d k i).toE k = some F.length := by
    unfold Eld.takeK
    rw [if_pos ⟨hok, by omega, h3⟩]
    exact hfst
  refine ⟨?_, ?_, ?_⟩
  · unfold takeRD Eld.takeD
    rw [hK]
    show ({ d with mail := (leftM d.mail k i).take F.length ++ (leftM d.mail k i).drop (F.length + 1) } : RunD) = { d with mail := leftM d.mail k (i + 1) }
    rw [hM, hM1]
    simp
  · unfold Eld.takeV
    rw [hK]
    show (leftM d.mail k i).getD F.length (0, 0) = _
    rw [hM, List.getD_eq_getElem?_getD, List.getElem?_append_right (Nat.le_refl _), Nat.sub_self]
    rfl
  · unfold Eld.takeB
    rw [hK]; rfl
theorem left_pass {d : RunD} {k : Int} {i : Nat} (hi : i < d.mail.length) (e : d.mail[i].1 ≠ k) : leftD d k (i + 1) = leftD d k i := by
  have hd : d.mail.drop i = d.mail[i] :: d.mail.drop (i + 1) := (List.drop_eq_getElem_cons hi)
  have ht : d.mail.take (i + 1) = d.mail.take i ++ [d.mail[i]] := by rw [List.take_succ_eq_append_getElem hi]
  unfold leftD leftM
  rw [ht, List.filter_append, hd]
  simp [e]
theorem left_none {d : RunD} {k : Int} (h0 : 1 ≤ k) : Eld.takeB (leftD d k d.mail.length).toE k = false := by
  have hM : leftM d.mail k d.mail.length = d.mail.filter (fun x => x.1 != k) := by unfold leftM; simp
  have hn : Eld.firstP k (leftM d.mail k d.mail.length) = none := by
    rw [hM]
    refine Eld.firstP_none fun j hj => ?_
    have := (List.mem_filter.1 (List.getElem_mem hj)).2
    unfold Eld.fitQ
    simp only [Bool.or_eq_false_iff, beq_eq_false_iff_ne]
    exact ⟨by omega, by simpa using this⟩
  unfold Eld.takeB Eld.takeK
  split
  · show (Eld.firstP k (leftM d.mail k d.mail.length)).isSome = false
    rw [hn]; rfl
  · rfl
theorem neqV_run (a b c d : Int) (x y : Operand) (w : World) : (do eqGuard .neq 26 x y (.agg #[.int .i64 a, .int .i64 b]) (.agg #[.int .i64 c, .int .i64 d]); binOp .neq 26 (.agg #[.int .i64 a, .int .i64 b]) (.agg #[.int .i64 c, .int .i64 d]) : Sem Value).run Try.prog w = .ok (.bool (!(a == c && b == d))) w := by
  rw [Sem.run_bind, run_eqGuard_agg w .neq 26 x y _ _ Try.eqGuardType26, Result.andThen_ok, run_neq_struct]
  cases h1 : (a == c) <;> cases h2 : (b == d) <;> simp [go_sem, h1, h2, Try.underlying26, Try.stoodInHeld26, Try.underlying3]
theorem Rd.neqV {o : Oper} {x y : Operand} {t2 : TypeId} (ho : o.op = .binOp .neq 26 x y t2) {ev : Operand → Value} {h : Hp} {K : Value → Prop} {a b c d : Int} (hx : ev x = .agg #[.int .i64 a, .int .i64 b]) (hy : ev y = .agg #[.int .i64 c, .int .i64 d]) (k : K (.bool (!(a == c && b == d)))) : Rd Try.prog (execOp ev o) h K := by
  refine ⟨_, fun w _ => ?_, k⟩
  unfold execOp
  rw [ho]
  refine run_value _ w _ _ ?_
  rw [hx, hy]
  exact neqV_run a b c d x y w
theorem runIn_le {h h' : Hp} {d : RunD} {p : RunP} (o : RunIn h d p) (hl : h.le h') : RunIn h' d p := by
  have key : ∀ {r : Row}, RowOk h r → RowOk h' r := fun {r} hr => Atom.same (x := .row r) hr fun g e => by obtain ⟨ob, hob⟩ := Atom.at_ (x := .row r) hr e; rw [hl g ob hob, hob]
  exact ⟨key o.r0, key o.r1, key o.r2, key o.r3⟩
theorem law (a : Option Addr) (len cap : Nat) (cb : Option (Nat × Obj)) (hc : CodeIn a len cap cb) :
    Con Try.prog 8 #[.slice a len cap] (cbHp cb) (Yes cb) := by
  refine Con.of_W (tb := tbE) (args := [.slice a len cap]) Try.func8 rfl Try.results8 Try.ntmps8 (by simp) (Try.call8 _) (tm := [(0, .v (.slice a len cap))]) rfl ?_
  refine vc_ok ⟨tbE_ok, _, Try.func8, Try.results8, Try.ntmps8⟩ 400 _ _ _ _ ?_
  conv => whnf
  refine Ext.len Try.underlying22 rfl rfl ?_
  conv => whnf
  refine ⟨fun _ => ?_, fun _ => ?_⟩ <;> conv => whnf
  · exact ⟨rfl, Hp.le_refl _⟩
  have ho : Own (cbHp cb) (cbAtoms cb ++ []) := by rw [List.append_nil]; exact cb_own cb
  refine (drawRunFirst_con a len cap cb hc _ [] ho).mono ?_
  rintro r h1 ⟨d, rp, k, rfl, hd, ho1⟩
  have hin : RunIn h1 d rp := ho1.run fun x hx => List.mem_append_right _ (List.mem_append_left _ hx)
  have hsh := hd.sh
  have hle : (cbHp cb).le h1 := cb_le ho1
  conv => whnf
  refine (sRunFirst_con d rp k hsh h1 hin).mono ?_
  rintro r h2 ⟨rfl, rfl⟩
  conv => whnf
  refine (iRunFirst_con d rp k hsh h2 hin).mono ?_
  rintro r h3 ⟨rfl, rfl⟩
  conv => whnf
  generalize hF : Eld.sFirst d.toE k = F
  obtain ⟨m, b⟩ := F
  dsimp only
  refine Ext.neqB rfl rfl rfl ?_
  conv => whnf
  refine ⟨fun _ => ?_, fun h4 => absurd h4 (by simp)⟩
  conv => whnf
  refine ⟨fun _ => ?_, fun h4 => absurd h4 (by simp)⟩
  conv => whnf
  refine (sRunOk_con d rp hsh h3 hin).mono ?_
  rintro r h4 ⟨rfl, rfl⟩
  conv => whnf
  refine ⟨fun hok => ?_, fun hok => ?_⟩ <;> conv => whnf
  · have hok' : Eld.specRB d.toE = true := by simpa using hok
    refine ⟨fun hk0 => ?_, fun hk0 => ?_⟩ <;> conv => whnf
    · refine ⟨fun hk1' => ?_, fun hk1' => ?_⟩ <;> conv => whnf
      · refine Ext.eqlB rfl rfl rfl ?_
        conv => whnf
        refine ⟨fun _ => ?_, fun h9 => absurd h9 (by simp)⟩
        conv => whnf
        exact ⟨congrArg Value.bool (by simp), hle⟩
      · have hrun : Eld.runB d.toE = true := by unfold Eld.specRB at hok'; rw [Bool.and_eq_true] at hok'; exact hok'.1
        clear hok
        have hk1 : 1 ≤ k := by simpa using hk0
        have hk3 : k ≤ 3 := by simpa using hk1'
        have hsp : Eld.specRB d.toE = true := hok'
        refine W.cut [(3, .p 0 0), (4, .v (.int .i64 k)), (9, .p 1 0), (10, .v (.int .i64 (0 : Nat)))] [⟨28, d.cells rp⟩, ⟨28, (leftD d k 0).cells rp⟩] [] ⟨rfl, rfl, rfl, rfl, trivial⟩ (by rw [left_zero]; rfl) rfl ⟨_, rfl⟩ ?_
        refine W.loop (α := Nat × RunP) (fun x => [(3, .p 0 0), (4, .v (.int .i64 k)), (9, .p 1 0), (10, .v (.int .i64 (x.1 : Int)))]) (fun x => [⟨28, d.cells rp⟩, ⟨28, (leftD d k x.1).cells x.2⟩])
          (fun x h' => x.1 ≤ d.mail.length ∧ RunIn h' d rp ∧ RunIn h' (leftD d k x.1) x.2 ∧ (cbHp cb).le h' ∧ ∃ L, Own h' L) (fun x => d.mail.length - x.1) ?_ (0, rp) _ ⟨Nat.zero_le _, hin, by rw [left_zero]; exact hin, hle, _, ho1⟩
        rintro ⟨i, q⟩ h5 ⟨hi, hinr, hinq, hle5, L, hoL⟩ ih
        dsimp only at hi hinr hinq hle5 hoL ⊢
        refine vc_ok ⟨tbE_ok, _, Try.func8, Try.results8, Try.ntmps8⟩ 400 _ _ _ _ ?_
        conv => whnf
        refine ⟨fun h6 => ?_, fun h6 => ?_⟩ <;> conv => whnf
        · have hlt : i < d.mail.length := by simp at h6; omega
          obtain ⟨g, hg⟩ := row_some hinr.r1 (by show 0 < d.mail.length; omega)
          refine Ext.index slVal.u slVal.size rfl (by show Value.slice rp.a1 d.mail.length rp.k1 = _; rw [hg]) rfl i rfl hlt ?_
          conv => whnf
          refine Ext.load tbE_ok rfl rfl hinr.r1 (by show Value.slice rp.a1 d.mail.length rp.k1 = _; rw [hg]) rfl (by show 0 + i * 2 + 0 + 1 ≤ d.mail.length * 2; omega) (.int .i64 d.mail[i].1) (.inr ⟨rfl, by rw [Nat.zero_add]; exact flat_get encV 2 encV_len d.mail i hlt 0 (by decide), rfl⟩) ?_
          conv => whnf
          have hw : IntKind.i64.wrap ((i : Int) + 1) = ((i + 1 : Nat) : Int) := by rw [wrapN _ (by omega) (by have := hsh.s1; omega)]; omega
          refine ⟨fun h7 => ?_, fun h7 => ?_⟩ <;> conv => whnf
          · have hne : d.mail[i].1 ≠ k := by simpa using h7
            rw [hw]
            exact W.back (ih (i + 1, q) h5 ⟨hlt, hinr, by rw [left_pass hlt hne]; exact hinq, hle5, L, hoL⟩ (by dsimp only; omega)) [] (by exact ⟨rfl, rfl, rfl, rfl, trivial⟩) (by rw [left_pass hlt hne]; rfl) rfl
          · have he : d.mail[i].1 = k := by simpa using h7
            obtain ⟨e1, e2, e3⟩ := left_take hsp hk1 hk3 hlt he
            have hshq : (leftD d k i).Sh := ⟨hsh.s0, Nat.le_trans (left_len _ _ _) hsh.s1, hsh.s2, hsh.s3⟩
            refine (iRunTake_con (leftD d k i) q k hshq h5 hinq L hoL).mono ?_
            rintro r h8 ⟨q8, rfl, hle8, ho8⟩
            rw [e1, e2, e3]
            conv => whnf
            refine W.draw [(0, true), (1, true), (2, true), (3, true), (4, true), (5, true), (6, true), (7, true), (8, true), (9, true), (10, true)] [0, 3] (some h8) 99 (by kernel_rfl) rfl (by kernel_rfl) mixed rfl (fun g e => by cases e; exact Hp.le_refl _) ?_
            refine vc_ok ⟨tbE_ok, _, Try.func8, Try.results8, Try.ntmps8⟩ 400 _ _ _ _ ?_
            conv => whnf
            have hinr8 := runIn_le hinr hle8
            refine ⟨fun _ => ?_, fun h9 => absurd h9 (by simp)⟩
            conv => whnf
            refine Rd.index slVal.u slVal.size rfl (by show Value.slice rp.a1 d.mail.length rp.k1 = _; rw [hg]) rfl i rfl hlt ?_
            conv => whnf
            refine Rd.loadVal rfl hinr8.r1 (by rw [hg]) hlt rfl ?_
            conv => whnf
            refine Rd.neqV rfl rfl rfl ?_
            conv => whnf
            refine ⟨fun h9 => absurd h9 (by simp), fun _ => ?_⟩
            conv => whnf
            rw [hw]
            rw [e1] at ho8
            exact W.back (ih (i + 1, q8) h8 ⟨hlt, hinr8, ho8.run fun x hx => List.mem_append_left _ hx, Hp.le_trans hle5 hle8, _, ho8⟩ (by dsimp only; omega)) [⟨28, (leftD d k (i + 1)).cells q8⟩, ⟨26, encV d.mail[i]⟩] (by exact ⟨rfl, rfl, rfl, rfl, trivial⟩) rfl rfl
        · have hge : i = d.mail.length := by simp at h6; omega
          have hshq : (leftD d k i).Sh := ⟨hsh.s0, Nat.le_trans (left_len _ _ _) hsh.s1, hsh.s2, hsh.s3⟩
          refine (iRunTake_con (leftD d k i) q k hshq h5 hinq L hoL).mono ?_
          rintro r h8 ⟨q8, rfl, hle8, ho8⟩
          rw [hge, left_none hk1]
          conv => whnf
          exact ⟨rfl, Hp.le_trans hle5 hle8⟩
    · refine Ext.eqlB rfl rfl rfl ?_
      conv => whnf
      refine ⟨fun _ => ?_, fun h9 => absurd h9 (by simp)⟩
      conv => whnf
      exact ⟨congrArg Value.bool (by simp), hle⟩
  · refine Ext.eqlB rfl rfl rfl ?_
    conv => whnf
    refine ⟨fun _ => ?_, fun h9 => absurd h9 (by simp)⟩
    conv => whnf
    exact ⟨congrArg Value.bool (by simp), hle⟩
theorem walk (a0 : Option Addr) (len0 cap0 : Nat) (w : World) (h0 : Eld.Code0 w a0 len0 cap0) : Calls Try.prog 8 #[.slice a0 len0 cap0] w fun e w' => e = .returned (.bool true) ∧ Below w.heap.size w w' := by
  obtain ⟨cb, hc, hi⟩ := code_in h0
  exact ((law a0 len0 cap0  cb hc).run w hi).mono fun e w' ⟨v, h', he, hy, hi', hf⟩ => yes_below hi hi' hf he hy
set_option maxRecDepth 100000 in
theorem lifted (os : Os) (started : os.Started) (H : Type) (enc : TypeId × Value → H) :
    ReturnsInHanded {} Try.checked os 8 .any (Rows.fnRunKeepsSpec.pre6 enc Try.prog Try.f8 Rows.fnRunKeepsRow.domain false) (Rows.fnRunKeepsSpec.post enc Try.prog Try.f8 false true false false) := by
  refine returnsInHanded_of_change (C := Try.checked) own started (by kernel_rfl) Try.func8
    (ChangeSpec.witness6 (enc := enc) (C := Try.checked) false ⟨#[], #[.slice none 0 0], []⟩ 8 (by kernel_rfl) (by kernel_rfl) (by kernel_rfl) (by kernel_rfl)) ?_
  intro W base args ds gs before hval0 hW hcnd _
  have hval : ∀ (j : Nat) t v, Try.f8.params[j]? = some t → args[j]? = some v → Value.okWide Try.prog W .any base t v := hval0
  have hW' := hW
  obtain ⟨p, q, hA0, hV, rfl, hfz, hnd⟩ := hW
  have hA : DataW.TrodAll enc Try.prog W 0 (fun _ => true) true Try.f8.params.toList args.toList ds p := hA0
  rw [Try.params8] at hA hval
  obtain ⟨v0, vs0, d0, ds0, p0, q0, hargs, rfl, rfl, h0, r0⟩ := trodAll_cons hA
  obtain ⟨rfl, rfl, rfl⟩ := trodAll_nil r0
  obtain rfl : args = #[v0] := by cases args; simp_all
  obtain ⟨rfl, rfl⟩ := trodVars_none hV
  obtain ⟨a0, len0, cap0, rfl⟩ := okWide_slice Try.underlying22 (hval 0 22 v0 rfl rfl)
  have k0 := h0
  have lt0 : ∀ x ∈ p0, x.block < W.heap.size := by obtain ⟨m, hm⟩ := k0; exact DataW.trod_lt m _ _ _ hm
  have w0 : Eld.Code0 W a0 len0 cap0 := by
    obtain ⟨fuel, hf⟩ := h0
    rcases open_ints Try.underlying22 Try.underlying5 (by kernel_rfl) hf with ⟨hcs, _⟩ | ⟨x, l, c, zs, hcs, _, hl, hm, hz, _, hcell, hwz⟩
    · simp [Value.cells] at hcs
      obtain ⟨rfl, rfl, rfl⟩ := hcs
      exact Eld.code_of_row (zs := []) (.inl ⟨rfl, rfl, rfl, rfl⟩)
    · simp [Value.cells] at hcs
      obtain ⟨rfl, rfl, rfl⟩ := hcs
      exact Eld.code_of_row (zs := zs) (.inr ⟨_, rfl, hl, hm, by simpa using hz, hcell, hwz⟩)
  clear hA0 hval0
  refine (walk a0 len0 cap0 W w0).mono fun e W' ⟨he, bel⟩ => ?_
  subst he
  exact ⟨_, rfl, _, _, _, [], _, [], hW', trodAll_mk1 (shut_bool Try.underlying4 _), (trodAll_cons_mk (Below.trod laidOut (by kernel_rfl) (of_decide_eq_true (by kernel_rfl)) k0 bel lt0) trodAll_mk0), rfl, bel.frame _, fun h => by cases h⟩
theorem over : Rows.fnRunKeepsRow.holds Try.pinned (OpenSpec.ofChange Rows.fnRunKeepsSpec) :=
  OpenClaim.holds_of_wide 8 Try.f8 rfl rfl rfl rfl rfl rfl rfl ⟨rfl, rfl, rfl, rfl, rfl⟩ rfl rfl rfl rfl rfl (by kernel_rfl) Try.func8 (by kernel_rfl)
    (of_decide_eq_true (by kernel_rfl)) (by unfold Func.isWrapper; first | (rw [if_pos (by decide +kernel)]; kernel_rfl) | (rw [if_neg (by decide +kernel)]; exact ⟨rfl, rfl⟩))
    (fun os started H enc _ => lifted os started H enc)
end FnRunKeeps
/-- the given statement -/
theorem fnRunKeeps_holds : Rows.FnRunKeepsSaid := FnRunKeeps.over
#print axioms fnRunKeeps_holds
end Go.Proofs.Ytklgpkkghhaccaa
