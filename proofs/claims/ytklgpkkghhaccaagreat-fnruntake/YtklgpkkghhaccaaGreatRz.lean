/-
  RunTake of both sides and what draws runs to take of, in memory that is owned (over this translation). No condition but those told.
-/
import Derived.Test.YtklgpkkghhaccaaGreatRk
import Derived.Test.YtklgpkkghhaccaaGreatQm
import Derived.Test.YtklgpkkghhaccaaGreatQn
namespace Go.Proofs.YtklgpkkghhaccaaGreat
open Go.RowKit
set_option maxRecDepth 100000
theorem sRunTake_con (d : RunD) (p : RunP) (k : Int) (hs : d.Sh) (h : Hp) (o : RunIn h d p) (l : List Atom) (ho : Own h l) :
    Con Tryz.prog 7 #[d.val p, .int .i64 k] h fun r h' => ∃ q, r = .tuple #[(takeRD d k).val q, .agg #[.int .i64 (Eld.takeV d.toE k).1, .int .i64 (Eld.takeV d.toE k).2], .bool (Eld.takeB d.toE k)] ∧ h.le h' ∧ Own h' (runRows (takeRD d k, q) ++ l) := by
  refine ⟨Tryz.call7 _, fun w hw => (Eld.specRunTake_any w.heap.size d.toE p.toE k w (Nat.le_refl _) hs.toE (row_cap o.r2) (row_cap o.r3) (o.mem hw)).mono fun e w' ⟨q, he, hr, hb⟩ => ?_⟩
  obtain ⟨h', hle, hown, hi, hf⟩ := Own.addRun hw ho hr hb
  exact ⟨_, h', he, ⟨RunP.ofE q, rfl, hle, hown⟩, hi, hf⟩
theorem lvRun_con (d : RunD) (p q : RunP) (hs : d.Sh) (h : Hp) (o : RunIn h d p) (o2 : RunIn h d q) : Con Tryz.prog 9 #[d.val p, d.val q] h fun r h' => r = .bool true ∧ h' = h := by
  refine Con.of_below (Tryz.call9 _) fun w hw => ?_
  exact (Eld.lvRun_same w.heap.size d.toE p.toE q.toE w (Nat.le_refl _) hs.toE (o.mem hw) (o2.mem hw)).mono fun e w' ⟨he, hb⟩ => ⟨⟨_, he, rfl⟩, hb⟩
theorem lvVals_con (L : List (Int × Int)) (a b : Option Addr) (k m : Nat) (hl : L.length ≤ 1000000) (h : Hp) (o : RowOk h (rowV (.slice a L.length k) L)) (o2 : RowOk h (rowV (.slice b L.length m) L)) : Con Tryz.prog 11 #[.slice a L.length k, .slice b L.length m] h fun r h' => r = .bool true ∧ h' = h := by
  refine Con.of_below (Tryz.call11 _) fun w hw => ?_
  exact (Eld.lvVals_same w.heap.size L _ _ w (by omega) (vals_at o hw) (vals_at o2 hw)).mono fun e w' ⟨he, hb⟩ => ⟨⟨_, he, rfl⟩, hb⟩
theorem drawRunTake_con (a : Option Addr) (len cap : Nat) (cb : Option (Nat × Obj)) (hc : CodeIn a len cap cb) (h : Hp) (l : List Atom) (ho : Own h (cbAtoms cb ++ l)) :
    Con Tryz.prog 6 #[.slice a len cap] h fun r h' => ∃ (d : RunD) (rp : RunP) (k : Int), r = .tuple #[d.val rp, .int .i64 k] ∧ DrawnR d ∧ Own h' (cbAtoms cb ++ (runRows (d, rp) ++ l)) := by
  refine Con.of_W (tb := tbE) (args := [.slice a len cap]) Tryz.func6 rfl Tryz.results6 Tryz.ntmps6 (by simp) (Tryz.call6 _) (tm := [(0, .v (.slice a len cap))]) rfl ?_
  refine vc_ok ⟨tbE_ok, _, Tryz.func6, Tryz.results6, Tryz.ntmps6⟩ 400 _ _ _ _ ?_
  conv => whnf
  refine (drawRunFirst_con a len cap cb hc h l ho).mono ?_
  rintro r h1 ⟨d, rp, k, rfl, hd, ho1⟩
  conv => whnf
  exact ⟨d, rp, k, rfl, hd, ho1⟩
theorem neqV_run (a b c d : Int) (x y : Operand) (w : World) : (do eqGuard .neq 26 x y (.agg #[.int .i64 a, .int .i64 b]) (.agg #[.int .i64 c, .int .i64 d]); binOp .neq 26 (.agg #[.int .i64 a, .int .i64 b]) (.agg #[.int .i64 c, .int .i64 d]) : Sem Value).run Tryz.prog w = .ok (.bool (!(a == c && b == d))) w := by
  rw [Sem.run_bind, run_eqGuard_agg w .neq 26 x y _ _ Tryz.eqGuardType26, Result.andThen_ok, run_neq_struct]
  cases h1 : (a == c) <;> cases h2 : (b == d) <;> simp [go_sem, h1, h2, Tryz.underlying26, Tryz.stoodInHeld26, Tryz.underlying3]
theorem Rd.neqV {o : Oper} {x y : Operand} {t2 : TypeId} (ho : o.op = .binOp .neq 26 x y t2) {ev : Operand → Value} {h : Hp} {K : Value → Prop} {a b c d : Int} (hx : ev x = .agg #[.int .i64 a, .int .i64 b]) (hy : ev y = .agg #[.int .i64 c, .int .i64 d]) (k : K (.bool (!(a == c && b == d)))) : Rd Tryz.prog (execOp ev o) h K := by
  refine ⟨_, fun w _ => ?_, k⟩
  unfold execOp
  rw [ho]
  refine run_value _ w _ _ ?_
  rw [hx, hy]
  exact neqV_run a b c d x y w
theorem Ext.neqV {o : Oper} {x y : Operand} {t2 : TypeId} (ho : o.op = .binOp .neq 26 x y t2) {ev : Operand → Value} {h : Hp} {K : Option Value → Hp → Prop} {a b c d : Int} (hx : ev x = .agg #[.int .i64 a, .int .i64 b]) (hy : ev y = .agg #[.int .i64 c, .int .i64 d]) (k : K (some (.bool (!(a == c && b == d)))) h) : Ext Tryz.prog (execOp ev o) h K := by
  refine Ext.val (.bool (!(a == c && b == d))) (fun w => ?_) k
  unfold execOp
  rw [ho]
  refine run_value _ w _ _ ?_
  rw [hx, hy]
  exact neqV_run a b c d x y w
theorem Rd.eqV {o : Oper} {x y : Operand} {t2 : TypeId} (ho : o.op = .binOp .eql 26 x y t2) {ev : Operand → Value} {h : Hp} {K : Value → Prop} {a b c d : Int} (hx : ev x = .agg #[.int .i64 a, .int .i64 b]) (hy : ev y = .agg #[.int .i64 c, .int .i64 d]) (k : K (.bool (a == c && b == d))) : Rd Tryz.prog (execOp ev o) h K := by
  refine ⟨_, fun w _ => ?_, k⟩
  unfold execOp
  rw [ho]
  refine run_value _ w _ _ ?_
  rw [hx, hy]
  exact eqV_run a b c d x y w
theorem runIn_le {h h' : Hp} {d : RunD} {p : RunP} (o : RunIn h d p) (hl : h.le h') : RunIn h' d p := by
  have key : ∀ {r : Row}, RowOk h r → RowOk h' r := fun {r} hr => Atom.same (x := .row r) hr fun g e => by obtain ⟨ob, hob⟩ := Atom.at_ (x := .row r) hr e; rw [hl g ob hob, hob]
  exact ⟨key o.r0, key o.r1, key o.r2, key o.r3⟩
theorem ok_less {d : RunD} (h : Eld.specRB d.toE = true) {M : List (Int × Int)} (hm : ∀ x ∈ M, x ∈ d.mail) (hl : M.length ≤ d.mail.length) : Eld.specRB ({ d with mail := M } : RunD).toE = true := by
  unfold Eld.specRB Eld.runB at h ⊢
  simp only [Bool.and_eq_true] at h ⊢
  obtain ⟨⟨h1, h2, h3, h4, h5, h6, h7, h8⟩, h9⟩ := h
  refine ⟨⟨h1, h2, h3, ?_, h5, h6, h7, ?_⟩, h9⟩
  · unfold Eld.mailB Eld.allOk at h4 ⊢
    rw [Bool.and_eq_true, decide_eq_true_eq, List.all_eq_true] at h4 ⊢
    exact ⟨Nat.le_trans hl h4.1, fun x hx => h4.2 x (hm x hx)⟩
  · unfold Eld.endB at h8 ⊢
    by_cases h3' : d.st = 3
    · rw [if_pos (show d.toE.st = 3 from h3')] at h8
      rw [if_pos (show ({ d with mail := M } : RunD).toE.st = 3 from h3')]
      simp only [Bool.and_eq_true, beq_iff_eq] at h8 ⊢
      have h0 : d.mail.length = 0 := h8.1
      exact ⟨by show M.length = 0; omega, h8.2⟩
    · rw [if_neg (show ¬ d.toE.st = 3 from h3')] at h8
      rw [if_neg (show ¬ ({ d with mail := M } : RunD).toE.st = 3 from h3')]
      exact h8
/-- the run that is left is no longer than it was -/
theorem takeRD_sh {d : RunD} (h : d.Sh) (k : Int) : (takeRD d k).Sh := by
  unfold takeRD Eld.takeD
  cases Eld.takeK d.toE k with
  | none => exact ⟨Nat.zero_le _, Nat.zero_le _, Nat.zero_le _, Nat.zero_le _⟩
  | some i => exact ⟨h.s0, by
      have := h.s1
      show (d.mail.take i ++ d.mail.drop (i + 1)).length ≤ _
      rw [List.length_append, List.length_take, List.length_drop]; omega, h.s2, h.s3⟩
end Go.Proofs.YtklgpkkghhaccaaGreat
