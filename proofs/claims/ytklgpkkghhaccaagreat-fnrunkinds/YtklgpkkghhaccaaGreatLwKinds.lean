/-
  FnRunKinds answers true for all codes: of a drawn run of two kinds either may be taken first. No condition.
-/
import Derived.Test.YtklgpkkghhaccaaGreatRz
namespace Go.Proofs.YtklgpkkghhaccaaGreat
open Go.ChangeShapes Go.WideShapes Go.ChangeAt Go.RowKit Go.Joins
set_option maxRecDepth 100000
namespace FnRunKinds
/-- the eldest that fits, and what is left -/
def popP (k : Int) : List (Int × Int) → Option ((Int × Int) × List (Int × Int))
  | [] => none
  | x :: L => if Eld.fitQ k x.1 = true then some (x, L) else (popP k L).map fun y => (y.1, x :: y.2)
theorem pop_first (k : Int) : ∀ L, popP k L = (Eld.firstP k L).map fun i => (L.getD i (0, 0), L.take i ++ L.drop (i + 1))
  | [] => rfl
  | x :: L => by
    unfold popP Eld.firstP
    by_cases h : Eld.fitQ k x.1 = true
    · rw [if_pos h, if_pos h]; rfl
    · rw [if_neg h, if_neg h, pop_first k L]
      cases Eld.firstP k L with
      | none => rfl
      | some i => simp
theorem pop_comm {k o : Int} (hk : 1 ≤ k) (ho : 1 ≤ o) (hne : k ≠ o) : ∀ (L : List (Int × Int)) {v : Int × Int} {M : List (Int × Int)}, popP k L = some (v, M) →
    (popP o L = none → popP o M = none) ∧ ∀ u N, popP o L = some (u, N) → ∃ R, popP o M = some (u, R) ∧ popP k N = some (v, R)
  | [], v, M, h => by cases h
  | x :: L, v, M, h => by
    unfold popP at h
    by_cases hf : Eld.fitQ k x.1 = true
    · rw [if_pos hf] at h
      cases h
      have hx : x.1 = k := by unfold Eld.fitQ at hf; simp at hf; omega
      have hg : ¬ Eld.fitQ o x.1 = true := by unfold Eld.fitQ; simp; omega
      have e : popP o (x :: L) = (popP o L).map fun y => (y.1, x :: y.2) := by show (if Eld.fitQ o x.1 = true then _ else _) = _; rw [if_neg hg]
      rw [e]
      cases hL : popP o L with
      | none => exact ⟨fun _ => rfl, fun u N hN => by cases hN⟩
      | some y =>
        refine ⟨fun hN => (by cases hN), fun u N hN => ?_⟩
        cases hN
        exact ⟨y.2, rfl, by show (if Eld.fitQ k x.1 = true then _ else _) = _; rw [if_pos hf]⟩
    · rw [if_neg hf] at h
      cases hL : popP k L with
      | none => rw [hL] at h; cases h
      | some y =>
        obtain ⟨v', M'⟩ := y
        rw [hL] at h
        cases h
        by_cases hg : Eld.fitQ o x.1 = true
        · have e : popP o (x :: L) = some (x, L) := by show (if Eld.fitQ o x.1 = true then _ else _) = _; rw [if_pos hg]
          have e2 : popP o (x :: M') = some (x, M') := by show (if Eld.fitQ o x.1 = true then _ else _) = _; rw [if_pos hg]
          rw [e, e2]
          refine ⟨fun hN => (by cases hN), fun u N hN => ?_⟩
          cases hN
          exact ⟨M', rfl, hL⟩
        · have e : popP o (x :: L) = (popP o L).map fun y => (y.1, x :: y.2) := by show (if Eld.fitQ o x.1 = true then _ else _) = _; rw [if_neg hg]
          have e2 : popP o (x :: M') = (popP o M').map fun y => (y.1, x :: y.2) := by show (if Eld.fitQ o x.1 = true then _ else _) = _; rw [if_neg hg]
          obtain ⟨ih1, ih2⟩ := pop_comm hk ho hne L hL
          rw [e, e2]
          cases hO : popP o L with
          | none => rw [ih1 hO]; exact ⟨fun _ => rfl, fun u N hN => by cases hN⟩
          | some y =>
            obtain ⟨u', N'⟩ := y
            obtain ⟨R, r1, r2⟩ := ih2 u' N' hO
            refine ⟨fun hN => (by cases hN), fun u N hN => ?_⟩
            cases hN
            refine ⟨x :: R, by rw [r1]; rfl, ?_⟩
            show (if Eld.fitQ k x.1 = true then _ else _) = _
            rw [if_neg hf, r2]; rfl
theorem take_pop {d : RunD} (h : Eld.specRB d.toE = true) {k : Int} (h0 : 0 ≤ k) (h3 : k ≤ 3) :
    (popP k d.mail = none → Eld.takeB d.toE k = false) ∧ ∀ v M, popP k d.mail = some (v, M) → Eld.takeB d.toE k = true ∧ Eld.takeV d.toE k = v ∧ takeRD d k = { d with mail := M } := by
  have hK : Eld.takeK d.toE k = Eld.firstP k d.mail := by unfold Eld.takeK; rw [if_pos ⟨h, h0, h3⟩]; rfl
  rw [pop_first]
  unfold Eld.takeB Eld.takeV takeRD Eld.takeD
  rw [hK]
  cases Eld.firstP k d.mail with
  | none => exact ⟨fun _ => rfl, fun v M e => by cases e⟩
  | some i => exact ⟨fun e => (by cases e), fun v M e => by cases e; exact ⟨rfl, rfl, rfl⟩⟩
theorem pop_mem {k : Int} : ∀ (L : List (Int × Int)) {v : Int × Int} {M : List (Int × Int)}, popP k L = some (v, M) → (∀ x ∈ M, x ∈ L) ∧ M.length ≤ L.length
  | [], v, M, h => by cases h
  | x :: L, v, M, h => by
    unfold popP at h
    by_cases hf : Eld.fitQ k x.1 = true
    · rw [if_pos hf] at h
      cases h
      exact ⟨fun y hy => List.mem_cons_of_mem _ hy, by simp⟩
    · rw [if_neg hf] at h
      cases hL : popP k L with
      | none => rw [hL] at h; cases h
      | some y =>
        obtain ⟨v', M'⟩ := y
        rw [hL] at h
        cases h
        obtain ⟨i1, i2⟩ := pop_mem L hL
        refine ⟨fun z hz => ?_, by simp; exact i2⟩
        rcases List.mem_cons.1 hz with rfl | hz
        · exact List.mem_cons_self
        · exact List.mem_cons_of_mem _ (i1 z hz)
theorem take_yes {d : RunD} {k : Int} (h : Eld.takeB d.toE k = true) : Eld.specRB d.toE = true ∧ 0 ≤ k ∧ k ≤ 3 := by
  unfold Eld.takeB Eld.takeK at h
  by_cases c : Eld.specRB d.toE = true ∧ (0 ≤ k ∧ k ≤ 3)
  · exact ⟨c.1, c.2.1, c.2.2⟩
  · rw [if_neg c] at h; cases h
theorem kinds {d : RunD} {k o : Int} (hk : 1 ≤ k) (ho : 1 ≤ o) (ho3 : o ≤ 3) (hne : k ≠ o) (hb : Eld.takeB d.toE k = true) :
    Eld.takeB (takeRD d k).toE o = Eld.takeB d.toE o ∧ (Eld.takeB d.toE o = true → Eld.takeB (takeRD d o).toE k = true ∧ Eld.takeV (takeRD d o).toE k = Eld.takeV d.toE k ∧ Eld.takeV (takeRD d k).toE o = Eld.takeV d.toE o ∧ takeRD (takeRD d o) k = takeRD (takeRD d k) o) := by
  obtain ⟨hsp, h0, h3⟩ := take_yes hb
  cases hp : popP k d.mail with
  | none => rw [(take_pop hsp h0 h3).1 hp] at hb; cases hb
  | some y =>
    obtain ⟨v, M⟩ := y
    obtain ⟨_, f2, f3⟩ := (take_pop hsp h0 h3).2 v M hp
    obtain ⟨m1, m2⟩ := pop_mem _ hp
    have hspM := ok_less hsp m1 m2
    obtain ⟨c1, c2⟩ := pop_comm hk ho hne _ hp
    rw [f3]
    cases hq : popP o d.mail with
    | none =>
      have g1 := (take_pop hsp (by omega : 0 ≤ o) ho3).1 hq
      have g2 := (take_pop hspM (by omega : 0 ≤ o) ho3).1 (c1 hq)
      rw [g1]
      exact ⟨g2, fun e => by cases e⟩
    | some z =>
      obtain ⟨u, N⟩ := z
      obtain ⟨R, r1, r2⟩ := c2 u N hq
      obtain ⟨a1, a2, a3⟩ := (take_pop hsp (by omega : 0 ≤ o) ho3).2 u N hq
      obtain ⟨n1, n2⟩ := pop_mem _ hq
      have hspN := ok_less hsp n1 n2
      obtain ⟨b1, b2, b3⟩ := (take_pop hspM (by omega : 0 ≤ o) ho3).2 u R r1
      obtain ⟨d1, d2, d3⟩ := (take_pop hspN h0 h3).2 v R r2
      rw [a1, a2, a3, f2]
      exact ⟨b1, fun _ => ⟨d1, d2, b2, by rw [d3, b3]⟩⟩
theorem law (a : Option Addr) (len cap : Nat) (a1 : Option Addr) (len1 cap1 : Nat) (cb : Option (Nat × Obj)) (hc : CodeIn a len cap cb) :
    Con Tryz.prog 5 #[.slice a len cap, .slice a1 len1 cap1] (cbHp cb) (Yes cb) := by
  refine Con.of_W (tb := tbE) (args := [.slice a len cap, .slice a1 len1 cap1]) Tryz.func5 rfl Tryz.results5 Tryz.ntmps5 (by simp) (Tryz.call5 _) (tm := [(0, .v (.slice a len cap)), (1, .v (.slice a1 len1 cap1))]) rfl ?_
  refine vc_ok ⟨tbE_ok, _, Tryz.func5, Tryz.results5, Tryz.ntmps5⟩ 400 _ _ _ _ ?_
  conv => whnf
  refine Ext.len Tryz.underlying22 rfl rfl ?_
  conv => whnf
  refine ⟨fun _ => ?_, fun _ => ?_⟩ <;> conv => whnf
  rotate_left
  · exact ⟨rfl, Hp.le_refl _⟩
  refine Ext.len Tryz.underlying22 rfl rfl ?_
  conv => whnf
  refine ⟨fun _ => ?_, fun _ => ?_⟩ <;> conv => whnf
  · exact ⟨rfl, Hp.le_refl _⟩
  have ho : Own (cbHp cb) (cbAtoms cb ++ []) := by rw [List.append_nil]; exact cb_own cb
  refine (drawRunTake_con a len cap cb hc _ [] ho).mono ?_
  rintro r h1 ⟨d, rp, k, rfl, hd, ho1⟩
  have hin : RunIn h1 d rp := ho1.run fun x hx => List.mem_append_right _ (List.mem_append_left _ hx)
  have hsh := hd.sh
  conv => whnf
  refine (sRunTake_con d rp k hsh h1 hin _ ho1).mono ?_
  rintro r h2 ⟨q2, rfl, hle2, ho2⟩
  conv => whnf
  refine (iRunTake_con d rp k hsh h2 (runIn_le hin hle2) _ ho2).mono ?_
  rintro r h3 ⟨q3, rfl, hle3, ho3⟩
  have hin3 := runIn_le (runIn_le hin hle2) hle3
  generalize hB : Eld.takeB d.toE k = tb at ho2 ho3 ⊢
  generalize hV : Eld.takeV d.toE k = tv at ho2 ho3 ⊢
  have hT2 : RunIn h3 (takeRD d k) q2 := ho3.run fun x hx => List.mem_append_right _ (List.mem_append_left _ hx)
  have hT3 : RunIn h3 (takeRD d k) q3 := ho3.run fun x hx => List.mem_append_left _ hx
  have hend : (cbHp cb).le h3 := cb_le ho3.right.right
  conv => whnf
  refine Ext.neqB rfl rfl rfl ?_
  conv => whnf
  refine ⟨fun _ => ?_, fun h4 => absurd h4 (by simp)⟩
  conv => whnf
  refine Ext.neqV rfl rfl rfl ?_
  conv => whnf
  refine ⟨fun _ => ?_, fun h4 => absurd h4 (by simp)⟩
  conv => whnf
  refine (lvRun_con (takeRD d k) q3 q2 (takeRD_sh hsh k) h3 hT3 hT2).mono ?_
  rintro r h4 ⟨rfl, rfl⟩
  conv => whnf
  refine ⟨fun _ => ?_, fun h5 => absurd h5 (by simp)⟩
  conv => whnf
  refine ⟨fun htb => ?_, fun htb => ?_⟩ <;> conv => whnf
  rotate_left
  · refine Ext.eqlB rfl rfl rfl ?_
    conv => whnf
    refine ⟨fun _ => ?_, fun h6 => absurd h6 (by simp)⟩
    conv => whnf
    refine Ext.eqV rfl rfl rfl ?_
    conv => whnf
    refine ⟨fun _ => ?_, fun h6 => absurd h6 (by simp)⟩
    conv => whnf
    refine (lvRun_con (takeRD d k) q3 q2 (takeRD_sh hsh k) h4 hT3 hT2).mono ?_
    rintro r h6 ⟨rfl, rfl⟩
    conv => whnf
    exact ⟨rfl, hend⟩
  refine ⟨fun hk => ?_, fun hk => ?_⟩ <;> conv => whnf
  · refine Ext.eqlB rfl rfl rfl ?_
    conv => whnf
    refine ⟨fun _ => ?_, fun h6 => absurd h6 (by simp)⟩
    conv => whnf
    refine Ext.eqV rfl rfl rfl ?_
    conv => whnf
    refine ⟨fun _ => ?_, fun h6 => absurd h6 (by simp)⟩
    conv => whnf
    refine (lvRun_con (takeRD d k) q3 q2 (takeRD_sh hsh k) h4 hT3 hT2).mono ?_
    rintro r h6 ⟨rfl, rfl⟩
    conv => whnf
    exact ⟨rfl, hend⟩
  have htb' : tb = true := by cases tb with
    | true => rfl
    | false => cases htb
  subst htb'
  obtain ⟨hsp, hk0, hk3⟩ := take_yes hB
  have hk1 : 1 ≤ k := by
    have : k ≠ 0 := by simpa using hk
    omega
  have ho3' := ho3
  clear ho3
  refine Ext.rem (b := 3) rfl rfl rfl (by decide) ?_
  conv => whnf
  have hr1 : k.tmod 3 = k % 3 := Int.tmod_eq_emod_of_nonneg hk0
  have hr2 : IntKind.i64.wrap (k.tmod 3 + 1) = k % 3 + 1 := by rw [hr1]; exact wrapN _ (by omega) (by omega)
  rw [hr2]
  refine Ext.len Tryz.underlying22 rfl rfl ?_
  conv => whnf
  refine Ext.rem (b := 2) rfl rfl rfl (by decide) ?_
  conv => whnf
  refine ⟨fun _ => ?_, fun _ => ?_⟩ <;> conv => whnf
  · refine Ext.rem (b := 3) rfl rfl rfl (by decide) ?_
    conv => whnf
    have hr3 : (k % 3 + 1).tmod 3 = (k % 3 + 1) % 3 := Int.tmod_eq_emod_of_nonneg (by omega)
    have hr4 : IntKind.i64.wrap ((k % 3 + 1).tmod 3 + 1) = (k % 3 + 1) % 3 + 1 := by rw [hr3]; exact wrapN _ (by omega) (by omega)
    rw [hr4]
    obtain ⟨o, ho⟩ : ∃ o, o = (k % 3 + 1) % 3 + 1 := ⟨_, rfl⟩
    have ho1 : 1 ≤ o := by omega
    have ho3 : o ≤ 3 := by omega
    rw [← ho]
    clear ho hr3 hr4
    refine ⟨fun _ => ?_, fun hne => ?_⟩ <;> conv => whnf
    · exact ⟨rfl, hend⟩
    have hne' : k ≠ o := fun e => by subst e; simp at hne
    obtain ⟨kn1, kn2⟩ := kinds hk1 ho1 ho3 hne' hB
    have hshT : (takeRD d k).Sh := takeRD_sh hsh k
    refine (iRunTake_con (takeRD d k) q3 o hshT h4 hT3 _ ho3').mono ?_
    rintro r h5 ⟨q5, rfl, hle5, ho5⟩
    conv => whnf
    refine (iRunTake_con d rp o hsh h5 (runIn_le hin3 hle5) _ ho5).mono ?_
    rintro r h6 ⟨q6, rfl, hle6, ho6⟩
    rw [kn1]
    conv => whnf
    have hT6 : RunIn h6 (takeRD d o) q6 := ho6.run fun x hx => List.mem_append_left _ hx
    have hT5 : RunIn h6 (takeRD (takeRD d k) o) q5 := ho6.run fun x hx => List.mem_append_right _ (List.mem_append_left _ hx)
    have hend6 : (cbHp cb).le h6 := Hp.le_trans hend (Hp.le_trans hle5 hle6)
    cases hb2 : Eld.takeB d.toE o with
    | false =>
      refine ⟨fun h7 => absurd h7 (by simp), fun _ => ?_⟩
      conv => whnf
      refine Ext.eqlB rfl rfl rfl ?_
      conv => whnf
      exact ⟨rfl, hend6⟩
    | true =>
      obtain ⟨z1, z2, z3, z4⟩ := kn2 hb2
      refine ⟨fun _ => ?_, fun h7 => absurd h7 (by simp)⟩
      conv => whnf
      refine ⟨fun h7 => absurd h7 (by simp), fun _ => ?_⟩
      conv => whnf
      refine (iRunTake_con (takeRD d o) q6 k (takeRD_sh hsh o) h6 hT6 _ ho6).mono ?_
      rintro r h7 ⟨q7, rfl, hle7, ho7⟩
      rw [z4] at ho7
      have hT7 : RunIn h7 (takeRD (takeRD d k) o) q7 := ho7.run fun x hx => List.mem_append_left _ hx
      rw [z1, z2, z3, z4, hV]
      conv => whnf
      refine ⟨fun _ => ?_, fun h8 => absurd h8 (by simp)⟩
      conv => whnf
      refine Ext.eqV rfl rfl rfl ?_
      conv => whnf
      refine ⟨fun _ => ?_, fun h8 => absurd h8 (by simp)⟩
      conv => whnf
      refine Ext.eqV rfl rfl rfl ?_
      conv => whnf
      refine ⟨fun _ => ?_, fun h8 => absurd h8 (by simp)⟩
      conv => whnf
      refine (lvRun_con (takeRD (takeRD d k) o) q7 q5 (takeRD_sh hshT o) h7 hT7 (runIn_le hT5 hle7)).mono ?_
      rintro r h8 ⟨rfl, rfl⟩
      conv => whnf
      exact ⟨rfl, Hp.le_trans hend6 hle7⟩
  · obtain ⟨o, ho⟩ : ∃ o, o = k % 3 + 1 := ⟨_, rfl⟩
    have ho1 : 1 ≤ o := by omega
    have ho3 : o ≤ 3 := by omega
    rw [← ho]
    clear ho
    refine ⟨fun _ => ?_, fun hne => ?_⟩ <;> conv => whnf
    · exact ⟨rfl, hend⟩
    have hne' : k ≠ o := fun e => by subst e; simp at hne
    obtain ⟨kn1, kn2⟩ := kinds hk1 ho1 ho3 hne' hB
    have hshT : (takeRD d k).Sh := takeRD_sh hsh k
    refine (iRunTake_con (takeRD d k) q3 o hshT h4 hT3 _ ho3').mono ?_
    rintro r h5 ⟨q5, rfl, hle5, ho5⟩
    conv => whnf
    refine (iRunTake_con d rp o hsh h5 (runIn_le hin3 hle5) _ ho5).mono ?_
    rintro r h6 ⟨q6, rfl, hle6, ho6⟩
    rw [kn1]
    conv => whnf
    have hT6 : RunIn h6 (takeRD d o) q6 := ho6.run fun x hx => List.mem_append_left _ hx
    have hT5 : RunIn h6 (takeRD (takeRD d k) o) q5 := ho6.run fun x hx => List.mem_append_right _ (List.mem_append_left _ hx)
    have hend6 : (cbHp cb).le h6 := Hp.le_trans hend (Hp.le_trans hle5 hle6)
    cases hb2 : Eld.takeB d.toE o with
    | false =>
      refine ⟨fun h7 => absurd h7 (by simp), fun _ => ?_⟩
      conv => whnf
      refine Ext.eqlB rfl rfl rfl ?_
      conv => whnf
      exact ⟨rfl, hend6⟩
    | true =>
      obtain ⟨z1, z2, z3, z4⟩ := kn2 hb2
      refine ⟨fun _ => ?_, fun h7 => absurd h7 (by simp)⟩
      conv => whnf
      refine ⟨fun h7 => absurd h7 (by simp), fun _ => ?_⟩
      conv => whnf
      refine (iRunTake_con (takeRD d o) q6 k (takeRD_sh hsh o) h6 hT6 _ ho6).mono ?_
      rintro r h7 ⟨q7, rfl, hle7, ho7⟩
      rw [z4] at ho7
      have hT7 : RunIn h7 (takeRD (takeRD d k) o) q7 := ho7.run fun x hx => List.mem_append_left _ hx
      rw [z1, z2, z3, z4, hV]
      conv => whnf
      refine ⟨fun _ => ?_, fun h8 => absurd h8 (by simp)⟩
      conv => whnf
      refine Ext.eqV rfl rfl rfl ?_
      conv => whnf
      refine ⟨fun _ => ?_, fun h8 => absurd h8 (by simp)⟩
      conv => whnf
      refine Ext.eqV rfl rfl rfl ?_
      conv => whnf
      refine ⟨fun _ => ?_, fun h8 => absurd h8 (by simp)⟩
      conv => whnf
      refine (lvRun_con (takeRD (takeRD d k) o) q7 q5 (takeRD_sh hshT o) h7 hT7 (runIn_le hT5 hle7)).mono ?_
      rintro r h8 ⟨rfl, rfl⟩
      conv => whnf
      exact ⟨rfl, Hp.le_trans hend6 hle7⟩
theorem walk (a0 : Option Addr) (len0 cap0 : Nat) (a1 : Option Addr) (len1 cap1 : Nat) (w : World) (h0 : Eld.Code0 w a0 len0 cap0) : Calls Tryz.prog 5 #[.slice a0 len0 cap0, .slice a1 len1 cap1] w fun e w' => e = .returned (.bool true) ∧ Below w.heap.size w w' := by
  obtain ⟨cb, hc, hi⟩ := code_in h0
  exact ((law a0 len0 cap0 a1 len1 cap1 cb hc).run w hi).mono fun e w' ⟨v, h', he, hy, hi', hf⟩ => yes_below hi hi' hf he hy
set_option maxRecDepth 100000 in
theorem lifted (os : Os) (started : os.Started) (H : Type) (enc : TypeId × Value → H) :
    ReturnsInHanded {} Tryz.checked os 5 .any (Rows.fnRunKindsSpec.pre6 enc Tryz.prog Tryz.f5 Rows.fnRunKindsRow.domain false) (Rows.fnRunKindsSpec.post enc Tryz.prog Tryz.f5 false true false false) := by
  refine returnsInHanded_of_change (C := Tryz.checked) own started (by kernel_rfl) Tryz.func5
    (ChangeSpec.witness6 (enc := enc) (C := Tryz.checked) false ⟨#[], #[.slice none 0 0, .slice none 0 0], []⟩ 8 (by kernel_rfl) (by kernel_rfl) (by kernel_rfl) (by kernel_rfl)) ?_
  intro W base args ds gs before hval0 hW hcnd _
  have hval : ∀ (j : Nat) t v, Tryz.f5.params[j]? = some t → args[j]? = some v → Value.okWide Tryz.prog W .any base t v := hval0
  have hW' := hW
  obtain ⟨p, q, hA0, hV, rfl, hfz, hnd⟩ := hW
  have hA : DataW.TrodAll enc Tryz.prog W 0 (fun _ => true) true Tryz.f5.params.toList args.toList ds p := hA0
  rw [Tryz.params5] at hA hval
  obtain ⟨v0, vs0, d0, ds0, p0, q0, hargs, rfl, rfl, h0, r0⟩ := trodAll_cons hA
  obtain ⟨v1, vs1, d1, ds1, p1, q1, rfl, rfl, rfl, h1, r1⟩ := trodAll_cons r0
  obtain ⟨rfl, rfl, rfl⟩ := trodAll_nil r1
  obtain rfl : args = #[v0, v1] := by cases args; simp_all
  obtain ⟨rfl, rfl⟩ := trodVars_none hV
  obtain ⟨a0, len0, cap0, rfl⟩ := okWide_slice Tryz.underlying22 (hval 0 22 v0 rfl rfl)
  have k0 := h0
  have lt0 : ∀ x ∈ p0, x.block < W.heap.size := by obtain ⟨m, hm⟩ := k0; exact DataW.trod_lt m _ _ _ hm
  obtain ⟨a1, len1, cap1, rfl⟩ := okWide_slice Tryz.underlying22 (hval 1 22 v1 rfl rfl)
  have k1 := h1
  have lt1 : ∀ x ∈ p1, x.block < W.heap.size := by obtain ⟨m, hm⟩ := k1; exact DataW.trod_lt m _ _ _ hm
  have w0 : Eld.Code0 W a0 len0 cap0 := by
    obtain ⟨fuel, hf⟩ := h0
    rcases open_ints Tryz.underlying22 Tryz.underlying5 (by kernel_rfl) hf with ⟨hcs, _⟩ | ⟨x, l, c, zs, hcs, _, hl, hm, hz, _, hcell, hwz⟩
    · simp [Value.cells] at hcs
      obtain ⟨rfl, rfl, rfl⟩ := hcs
      exact Eld.code_of_row (zs := []) (.inl ⟨rfl, rfl, rfl, rfl⟩)
    · simp [Value.cells] at hcs
      obtain ⟨rfl, rfl, rfl⟩ := hcs
      exact Eld.code_of_row (zs := zs) (.inr ⟨_, rfl, hl, hm, by simpa using hz, hcell, hwz⟩)
  clear hA0 hval0
  refine (walk a0 len0 cap0 a1 len1 cap1 W w0).mono fun e W' ⟨he, bel⟩ => ?_
  subst he
  exact ⟨_, rfl, _, _, _, [], _, [], hW', trodAll_mk1 (shut_bool Tryz.underlying4 _), (trodAll_cons_mk (Below.trod laidOut (by kernel_rfl) (of_decide_eq_true (by kernel_rfl)) k0 bel lt0) (trodAll_cons_mk (Below.trod laidOut (by kernel_rfl) (of_decide_eq_true (by kernel_rfl)) k1 bel lt1) trodAll_mk0)), rfl, bel.frame _, fun h => by cases h⟩
theorem over : Rows.fnRunKindsRow.holds Tryz.pinned (OpenSpec.ofChange Rows.fnRunKindsSpec) :=
  OpenClaim.holds_of_wide 5 Tryz.f5 rfl rfl rfl rfl rfl rfl rfl ⟨rfl, rfl, rfl, rfl, rfl⟩ rfl rfl rfl rfl rfl (by kernel_rfl) Tryz.func5 (by kernel_rfl)
    (of_decide_eq_true (by kernel_rfl)) (by unfold Func.isWrapper; first | (rw [if_pos (by decide +kernel)]; kernel_rfl) | (rw [if_neg (by decide +kernel)]; exact ⟨rfl, rfl⟩))
    (fun os started H enc _ => lifted os started H enc)
end FnRunKinds
/-- the given statement -/
theorem fnRunKinds_holds : Rows.FnRunKindsSaid := FnRunKinds.over
#print axioms fnRunKinds_holds
end Go.Proofs.YtklgpkkghhaccaaGreat
