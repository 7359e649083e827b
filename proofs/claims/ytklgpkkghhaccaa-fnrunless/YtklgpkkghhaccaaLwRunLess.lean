/-
  FnRunLess answers true for all codes: with less mail a drawn run is ok. No condition.
-/
import Derived.Test.YtklgpkkghhaccaaSl
import Derived.Test.YtklgpkkghhaccaaSj
namespace Go.Proofs.Ytklgpkkghhaccaa
open Go.ChangeShapes Go.WideShapes Go.ChangeAt Go.RowKit Go.Joins
set_option maxRecDepth 100000
namespace FnRunLess
theorem Rd.len {t e : TypeId} (hu : Try.prog.underlying t = some (.slice e)) {o : Oper} {x : Operand} (ho : o.op = .call { callee := .builtin .len, args := #[x], argTypes := #[t] }) {ev : Operand → Value} {h : Hp} {K : Value → Prop} {a : Option Addr} {n c : Nat} (hx : ev x = .slice a n c) (k : K (.int .i64 n)) : Rd Try.prog (execOp ev o) h K := by
  refine ⟨_, fun w _ => ?_, k⟩
  simp [execOp, ho, resolve, invoke, builtin, hx, Builtin.len_, run_underlying hu, goInt]
theorem Rd.rem {t t' : TypeId} {o : Oper} {x y : Operand} (ho : o.op = .binOp .rem t x y t') {ev : Operand → Value} {h : Hp} {K : Value → Prop} {a b : Int} (hx : ev x = .int .i64 a) (hy : ev y = .int .i64 b) (hb : b ≠ 0) (k : K (.int .i64 (a.tmod b))) : Rd Try.prog (execOp ev o) h K :=
  ⟨_, fun w _ => by simp [execOp, ho, hx, hy, eqGuard, binOp, Op.intDiv, hb], k⟩
theorem Rd.sliceRow {o : Oper} {x y : Operand} (ho : o.op = .slice 23 x none (some y) none) {ev : Operand → Value} {h : Hp} {K : Value → Prop} {a : Option Addr} {cap : Nat} {h0 : Hp} {L : List (Int × Int)} (hr : RowOk h0 (rowV (.slice a L.length cap) L)) (hx : ev x = .slice a L.length cap) (k : Nat) (hk : k ≤ L.length) (hy : ev y = .int .i64 (k : Int)) (hK0 : K (.slice a (L.take k).length cap)) : Rd Try.prog (execOp ev o) h K := by
  have hl : (L.take k).length = k := by rw [List.length_take]; omega
  have hK : K (.slice a k cap) := by rw [hl] at hK0; exact hK0
  rcases hr.2 with ⟨e, h0⟩ | ⟨g, cap', cur, e, _, hnc, _⟩
  · have h0' : L.length = 0 := h0
    have e' : Value.slice a L.length cap = .slice none 0 0 := e
    injection e' with ea el ec
    subst ea ec
    rw [el] at hx
    have hk0 : k = 0 := by omega
    subst hk0
    have hop : execOp ev o = (do pure (Next.value (← Instr.sliceAt 23 (ev x) none (some (ev y)) none)) : Sem Next) := by unfold execOp; rw [ho]; rfl
    rw [hop, hx, hy]
    refine ⟨_, fun w _ => run_value _ w _ _ ?_, hK⟩
    simp [Instr.sliceAt, Instr.slice, Instr.sliceBounds, Instr.sliceBound, asIntOf, run_underlying slVal.u, slVal.size]
  · have e' : Value.slice a L.length cap = .slice (some ⟨g, 0, none⟩) L.length cap' := e
    cases e'
    have : L.length ≤ cap := hnc
    exact Rd.sliceHi slVal ho hx k (by omega) hy hK
theorem one_ints (L : List Int) : ∀ u ∈ L.flatMap encI, u.oneCell' = true := fun u hu => by
  obtain ⟨x, _, hx⟩ := List.mem_flatMap.1 hu
  exact one_int x u hx
theorem Ext.copyI {o : Oper} {s y : Operand} (ho : o.op = .call { callee := .builtin .append, args := #[s, y], argTypes := #[24, 24] }) {ev : Operand → Value} {h : Hp} {K : Option Value → Hp → Prop} {l : List Atom} {tv v : Value} {L : List Int}
    (hown : Own h (.row ⟨3, 1, v, 0, []⟩ :: l)) (hs : ev s = v) (hy : ev y = tv) (hr : RowOk h (rowI tv L)) (hn : L.length ≤ 1000000) (k : ∀ a c h', Own h' (.row (rowI (.slice a L.length c) L) :: l) → K (some (.slice a L.length c)) h') : Ext Try.prog (execOp ev o) h K := by
  refine Ext.append slInt ho hown rfl rfl hs hy (RowOk.src hr (one_ints L)) (by show (0 + L.length) * 8 ≤ _; omega) (by show 0 + L.length ≤ _; unfold maxLen; omega) fun v' h' ho1 => ?_
  have e : (⟨3, 1, v', 0 + L.length, [] ++ L.flatMap encI⟩ : Row) = rowI v' L := by simp [rowI]
  have ho2 : Own h' (.row (rowI v' L) :: l) := by rw [← e]; exact ho1
  obtain ⟨a, c, hv⟩ := RowOk.form' (ho2.ok _ List.mem_cons_self)
  have hv' : v' = .slice a L.length c := hv
  subst hv'
  exact k a c h' ho2
theorem Ext.noI {o : Oper} (ho : o.op = .buildSlice 24 0 #[]) {ev : Operand → Value} {h : Hp} {K : Option Value → Hp → Prop} {l : List Atom} (hown : Own h l) (k : ∀ g h', h.le h' → Own h' (.row ⟨3, 1, .slice (some ⟨g, 0, none⟩) 0 0, 0, []⟩ :: l) → K (some (.slice (some ⟨g, 0, none⟩) 0 0)) h') : Ext Try.prog (execOp ev o) h K :=
  Ext.buildSlice slInt ho hown [] (fun w => ⟨_, Try.zeroValue3 w, by kernel_rfl⟩) [] (by simp; rfl) rfl (by decide) k
theorem Ext.fourV {o : Oper} {y0 y1 y2 y3 : Operand} (ho : o.op = .buildSlice 23 4 #[(0, y0), (1, y1), (2, y2), (3, y3)]) {ev : Operand → Value} {h : Hp} {K : Option Value → Hp → Prop} {l : List Atom} (hown : Own h l)
    (e0 : ev y0 = .agg #[.int .i64 1, .int .i64 1]) (e1 : ev y1 = .agg #[.int .i64 0, .int .i64 0]) (e2 : ev y2 = .agg #[.int .i64 0, .int .i64 0]) (e3 : ev y3 = .agg #[.int .i64 0, .int .i64 0])
    (k : ∀ g h', h.le h' → Own h' (.row (rowV (.slice (some ⟨g, 0, none⟩) 4 4) [(1, 1), (0, 0), (0, 0), (0, 0)]) :: l) → K (some (.slice (some ⟨g, 0, none⟩) 4 4)) h') : Ext Try.prog (execOp ev o) h K :=
  Ext.buildSlice slVal ho hown [.int .i64 0, .int .i64 0, .int .i64 0, .int .i64 0, .int .i64 0, .int .i64 0, .int .i64 0, .int .i64 0] (fun w => ⟨_, Try.zeroValue26 w, by kernel_rfl⟩) ([((1 : Int), (1 : Int)), (0, 0), (0, 0), (0, 0)].flatMap encV) (by simp [e0, e1, e2, e3]; rfl) rfl (by decide) k
theorem less_row {h : Hp} {a : Option Addr} {cap : Nat} {L : List (Int × Int)} (hr : RowOk h (rowV (.slice a L.length cap) L)) (k : Nat) (hk : k ≤ L.length) : RowOk h (rowV (.slice a (L.take k).length cap) (L.take k)) := by
  have hl : (L.take k).length = k := by rw [List.length_take]; omega
  refine ⟨flat_len encV 2 encV_len _, ?_⟩
  rcases hr.2 with ⟨e, h0⟩ | ⟨g, cap', cur, e, hg, hnc, hcm, hcs, ht⟩
  · have h0' : L.length = 0 := h0
    have e' : Value.slice a L.length cap = .slice none 0 0 := e
    injection e' with ea el ec
    subst ea ec
    exact .inl ⟨by show Value.slice _ (L.take k).length _ = _; rw [hl, show k = 0 by omega], by show (L.take k).length = 0; omega⟩
  · have e' : Value.slice a L.length cap = .slice (some ⟨g, 0, none⟩) L.length cap' := e
    cases e'
    have hnc' : L.length ≤ cap := hnc
    have ht' : cur.toList.take (L.length * 2) = L.flatMap encV := ht
    refine .inr ⟨g, cap, cur, rfl, hg, by show (L.take k).length ≤ cap; omega, hcm, hcs, ?_⟩
    show cur.toList.take ((L.take k).length * 2) = (L.take k).flatMap encV
    rw [flat_take encV 2 encV_len L k hk, ← ht', hl, List.take_take, Nat.min_eq_left (by omega)]
theorem runB_less {d : RunD} (h : Eld.runB d.toE = true) (m : Nat) : Eld.runB ({ d with mail := d.mail.take m } : RunD).toE = true := by
  unfold Eld.runB at h ⊢
  simp only [Bool.and_eq_true] at h ⊢
  obtain ⟨h1, h2, h3, h4, h5, h6, h7, h8⟩ := h
  refine ⟨h1, h2, h3, ?_, h5, h6, h7, ?_⟩
  · unfold Eld.mailB Eld.allOk at h4 ⊢
    rw [Bool.and_eq_true, decide_eq_true_eq, List.all_eq_true] at h4 ⊢
    refine ⟨Nat.le_trans ?_ h4.1, fun x hx => h4.2 x (List.mem_of_mem_take hx)⟩
    show (d.mail.take m).length ≤ d.mail.length
    rw [List.length_take]; omega
  · unfold Eld.endB at h8 ⊢
    by_cases h3' : d.st = 3
    · rw [if_pos (show d.toE.st = 3 from h3')] at h8
      rw [if_pos (show ({ d with mail := d.mail.take m } : RunD).toE.st = 3 from h3')]
      simp only [Bool.and_eq_true, beq_iff_eq] at h8 ⊢
      have h0 : d.mail.length = 0 := h8.1
      exact ⟨by show (d.mail.take m).length = 0; rw [List.length_take]; omega, h8.2⟩
    · rw [if_neg (show ¬ d.toE.st = 3 from h3')] at h8
      rw [if_neg (show ¬ ({ d with mail := d.mail.take m } : RunD).toE.st = 3 from h3')]
      exact h8
theorem runB_own (d : RunD) : Eld.runB ({ d with links := d.links ++ [d.id] } : RunD).toE = false := by
  have key : Eld.idsB d.id (d.links ++ [d.id]) = false := by
    refine Eld.idsB_no (i := d.links.length) (by simp) ?_
    unfold Eld.idQ
    have : (d.links ++ [d.id]).getD d.links.length 0 = d.id := by rw [List.getD_eq_getElem?_getD]; simp
    rw [this]; simp
  cases e : Eld.runB ({ d with links := d.links ++ [d.id] } : RunD).toE with
  | false => rfl
  | true =>
    unfold Eld.runB at e
    simp only [Bool.and_eq_true] at e
    have : Eld.idsB d.id (d.links ++ [d.id]) = true := e.2.2.2.2.2.1
    rw [key] at this; cases this
theorem runB_full (d : RunD) : Eld.runB ({ d with full := 0, slots := [(1, 1), (0, 0), (0, 0), (0, 0)] } : RunD).toE = false := by
  cases e : Eld.runB ({ d with full := 0, slots := [(1, 1), (0, 0), (0, 0), (0, 0)] } : RunD).toE with
  | false => rfl
  | true =>
    unfold Eld.runB Eld.slotsB at e
    simp only [Bool.and_eq_true] at e
    have : (List.range 4).all (Eld.slotQ 0 [(1, 1), (0, 0), (0, 0), (0, 0)]) = true := e.2.2.1.2.2
    revert this; decide +kernel
theorem law (a : Option Addr) (len cap : Nat) (a1 : Option Addr) (len1 cap1 : Nat) (cb : Option (Nat × Obj)) (hc : CodeIn a len cap cb) :
    Con Try.prog 5 #[.slice a len cap, .slice a1 len1 cap1] (cbHp cb) (Yes cb) := by
  refine Con.of_W (tb := tbE) (args := [.slice a len cap, .slice a1 len1 cap1]) Try.func5 rfl Try.results5 Try.ntmps5 (by simp) (Try.call5 _) (tm := [(0, .v (.slice a len cap)), (1, .v (.slice a1 len1 cap1))]) rfl ?_
  refine vc_ok ⟨tbE_ok, _, Try.func5, Try.results5, Try.ntmps5⟩ 400 _ _ _ _ ?_
  conv => whnf
  refine Ext.len Try.underlying22 rfl rfl ?_
  conv => whnf
  refine ⟨fun _ => ?_, fun _ => ?_⟩ <;> conv => whnf
  rotate_left
  · exact ⟨rfl, Hp.le_refl _⟩
  refine Ext.len Try.underlying22 rfl rfl ?_
  conv => whnf
  refine ⟨fun _ => ?_, fun _ => ?_⟩ <;> conv => whnf
  · exact ⟨rfl, Hp.le_refl _⟩
  have ho : Own (cbHp cb) (cbAtoms cb ++ []) := by rw [List.append_nil]; exact cb_own cb
  refine (drawRunOk_con a len cap cb hc _ [] ho).mono ?_
  rintro r h1 ⟨d, rp, rfl, hd, ho1⟩
  have hin : RunIn h1 d rp := ho1.run fun x hx => List.mem_append_right _ (List.mem_append_left _ hx)
  have hsh := hd.sh
  have hle : (cbHp cb).le h1 := cb_le ho1
  have hboth := hd.both
  conv => whnf
  refine (iRunOk_con d rp hsh h1 hin).mono ?_
  rintro r h2 ⟨rfl, rfl⟩
  conv => whnf
  refine (sRunOk_con d rp hsh h2 hin).mono ?_
  rintro r h3 ⟨rfl, rfl⟩
  rw [hboth]
  conv => whnf
  refine Ext.neqB rfl rfl rfl ?_
  conv => whnf
  refine ⟨fun _ => ?_, fun h4 => absurd h4 (by simp)⟩
  conv => whnf
  refine ⟨fun hok => ?_, fun hok => ?_⟩ <;> conv => whnf
  · refine (sRunOk_con d rp hsh h3 hin).mono ?_
    rintro r h5 ⟨rfl, rfl⟩
    rw [hboth]
    conv => whnf
    refine Ext.eqlB rfl rfl rfl ?_
    conv => whnf
    exact ⟨congrArg Value.bool (by simp), hle⟩
  · have hrun : Eld.runB d.toE = true := by simpa using hok
    obtain ⟨m, hm, hme⟩ : ∃ m : Nat, m ≤ d.mail.length ∧ (len1 : Int).tmod (IntKind.i64.wrap ((d.mail.length : Int) + 1)) = (m : Int) := by
      have := hsh.s1
      rw [wrapN _ (by omega) (by omega), Int.tmod_eq_emod_of_nonneg (by omega)]
      have h5 := Int.emod_nonneg (len1 : Int) (b := (d.mail.length : Int) + 1) (by omega)
      have h6 := Int.emod_lt_of_pos (len1 : Int) (b := (d.mail.length : Int) + 1) (by omega)
      exact ⟨((len1 : Int) % ((d.mail.length : Int) + 1)).toNat, by omega, by omega⟩
    have hne : IntKind.i64.wrap ((d.mail.length : Int) + 1) ≠ 0 := by
      have := hsh.s1
      rw [wrapN _ (by omega) (by omega)]; omega
    refine W.cut [(1, .v (.slice a1 len1 cap1)), (5, .p 0 0), (7, .p 1 0)] [⟨28, d.cells rp⟩, ⟨28, d.cells rp⟩] [] ⟨rfl, rfl, rfl, trivial⟩ rfl rfl ⟨_, rfl⟩ ?_
    refine W.draw [(0, true), (1, true), (2, true), (3, true), (4, true), (5, true), (6, true), (7, true), (8, true), (9, true), (10, true), (11, false)] [0] none 99 (by kernel_rfl) rfl (by kernel_rfl) mixed rfl (fun g e => by cases e) ?_
    refine vc_ok ⟨tbE_ok, _, Try.func5, Try.results5, Try.ntmps5⟩ 400 _ _ _ _ ?_
    conv => whnf
    refine Rd.len Try.underlying22 rfl rfl ?_
    conv => whnf
    refine Rd.rem rfl rfl rfl hne ?_
    rw [hme]
    conv => whnf
    refine Rd.sliceRow rfl hin.r1 rfl m hm rfl ?_
    conv => whnf
    have hlk : d.links.length < 1000000 := by obtain ⟨_, _, hl3, _⟩ := hd.facts; omega
    have hid : ∀ {h' : Hp} {A : List Atom}, Own h' (A ++ (cbAtoms cb ++ (runRows (d, rp) ++ []))) → RunIn h' d rp := fun o => o.run fun x hx => List.mem_append_right _ (List.mem_append_right _ (List.mem_append_left _ hx))
    refine W.draw [(1, true), (2, true), (4, true), (5, true), (1000006, false), (1003006, false), (6, false), (7, false), (8, true), (9, false)] [0] none 99 (by kernel_rfl) rfl (by kernel_rfl) mixed rfl (fun g e => by cases e) ?_
    refine vc_ok ⟨tbE_ok, _, Try.func5, Try.results5, Try.ntmps5⟩ 400 _ _ _ _ ?_
    conv => whnf
    refine ⟨?_, ?_⟩ <;> conv => whnf
    · refine Ext.noI rfl ho1 fun g4 h4 hle4 ho4 => ?_
      conv => whnf
      refine ⟨?_, ?_⟩ <;> conv => whnf
      · refine Ext.copyI (tv := .slice rp.a2 d.links.length rp.k2) rfl ho4 rfl rfl (hid (A := [_]) ho4).r2 hsh.s2 fun a5 c5 h5 ho5 => ?_
        conv => whnf
        refine Ext.litI rfl ho5 d.id rfl fun g6 h6 hle6 ho6 => ?_
        conv => whnf
        refine Ext.pushI rfl ho6 rfl rfl hlk fun a7 c7 h7 ho7 => ?_
        conv => whnf
        refine Ext.fourV rfl ho7 rfl rfl rfl rfl fun g8 h8 hle8 ho8 => ?_
        conv => whnf
        have hrd : RunIn h8 d rp := hid (A := [_, _]) ho8
        have hy8 : RowOk h8 (rowI (.slice a7 (d.links ++ [d.id]).length c7) (d.links ++ [d.id])) := ho8.rowOk (List.mem_cons_of_mem _ List.mem_cons_self)
        have hz8 : RowOk h8 (rowV (.slice (some ⟨g8, 0, none⟩) 4 4) [(1, 1), (0, 0), (0, 0), (0, 0)]) := ho8.rowOk List.mem_cons_self
        have hend : (cbHp cb).le h8 := cb_le ho8.tail.tail
        refine (iRunOk_con { d with mail := d.mail.take m } rp ⟨hsh.s0, by show (d.mail.take m).length ≤ _; rw [List.length_take]; have := hsh.s1; omega, hsh.s2, hsh.s3⟩ h8 ⟨hrd.r0, less_row hrd.r1 m hm, hrd.r2, hrd.r3⟩).mono ?_
        rintro r h9 ⟨rfl, rfl⟩
        rw [runB_less hrun m]
        conv => whnf
        refine ⟨fun _ => ?_, fun h => absurd h (by simp)⟩
        conv => whnf
        refine (iRunOk_con { d with links := d.links ++ [d.id] } { rp with a2 := a7, k2 := c7 } ⟨hsh.s0, hsh.s1, by show (d.links ++ [d.id]).length ≤ _; rw [List.length_append, List.length_singleton]; omega, hsh.s3⟩ h9 ⟨hrd.r0, hrd.r1, hy8, hrd.r3⟩).mono ?_
        rintro r h10 ⟨rfl, rfl⟩
        rw [runB_own d]
        conv => whnf
        refine ⟨fun _ => ?_, fun h => absurd h (by simp)⟩
        conv => whnf
        refine (iRunOk_con { d with full := 0, slots := [(1, 1), (0, 0), (0, 0), (0, 0)] } { rp with a0 := some ⟨g8, 0, none⟩, k0 := 4 } ⟨by show 4 ≤ 1000000; decide, hsh.s1, hsh.s2, hsh.s3⟩ h10 ⟨hz8, hrd.r1, hrd.r2, hrd.r3⟩).mono ?_
        rintro r h11 ⟨rfl, rfl⟩
        rw [runB_full d]
        conv => whnf
        exact ⟨rfl, hend⟩
      · refine Ext.litI rfl ho4 d.id rfl fun g5 h5 hle5 ho5 => ?_
        conv => whnf
        refine Ext.copyI (tv := .slice rp.a2 d.links.length rp.k2) rfl (ho5.perm (List.Perm.swap _ _ _)) rfl rfl (hid (A := [_, _]) ho5).r2 hsh.s2 fun a6 c6 h6 ho6 => ?_
        conv => whnf
        refine Ext.pushI rfl (ho6.perm (List.Perm.swap _ _ _)) rfl rfl hlk fun a7 c7 h7 ho7 => ?_
        conv => whnf
        refine Ext.fourV rfl ho7 rfl rfl rfl rfl fun g8 h8 hle8 ho8 => ?_
        conv => whnf
        have hrd : RunIn h8 d rp := hid (A := [_, _]) ho8
        have hy8 : RowOk h8 (rowI (.slice a7 (d.links ++ [d.id]).length c7) (d.links ++ [d.id])) := ho8.rowOk (List.mem_cons_of_mem _ List.mem_cons_self)
        have hz8 : RowOk h8 (rowV (.slice (some ⟨g8, 0, none⟩) 4 4) [(1, 1), (0, 0), (0, 0), (0, 0)]) := ho8.rowOk List.mem_cons_self
        have hend : (cbHp cb).le h8 := cb_le ho8.tail.tail
        refine (iRunOk_con { d with mail := d.mail.take m } rp ⟨hsh.s0, by show (d.mail.take m).length ≤ _; rw [List.length_take]; have := hsh.s1; omega, hsh.s2, hsh.s3⟩ h8 ⟨hrd.r0, less_row hrd.r1 m hm, hrd.r2, hrd.r3⟩).mono ?_
        rintro r h9 ⟨rfl, rfl⟩
        rw [runB_less hrun m]
        conv => whnf
        refine ⟨fun _ => ?_, fun h => absurd h (by simp)⟩
        conv => whnf
        refine (iRunOk_con { d with links := d.links ++ [d.id] } { rp with a2 := a7, k2 := c7 } ⟨hsh.s0, hsh.s1, by show (d.links ++ [d.id]).length ≤ _; rw [List.length_append, List.length_singleton]; omega, hsh.s3⟩ h9 ⟨hrd.r0, hrd.r1, hy8, hrd.r3⟩).mono ?_
        rintro r h10 ⟨rfl, rfl⟩
        rw [runB_own d]
        conv => whnf
        refine ⟨fun _ => ?_, fun h => absurd h (by simp)⟩
        conv => whnf
        refine (iRunOk_con { d with full := 0, slots := [(1, 1), (0, 0), (0, 0), (0, 0)] } { rp with a0 := some ⟨g8, 0, none⟩, k0 := 4 } ⟨by show 4 ≤ 1000000; decide, hsh.s1, hsh.s2, hsh.s3⟩ h10 ⟨hz8, hrd.r1, hrd.r2, hrd.r3⟩).mono ?_
        rintro r h11 ⟨rfl, rfl⟩
        rw [runB_full d]
        conv => whnf
        exact ⟨rfl, hend⟩
    · refine Ext.litI rfl ho1 d.id rfl fun g4 h4 hle4 ho4 => ?_
      conv => whnf
      refine Ext.noI rfl ho4 fun g5 h5 hle5 ho5 => ?_
      conv => whnf
      refine Ext.copyI (tv := .slice rp.a2 d.links.length rp.k2) rfl ho5 rfl rfl (hid (A := [_, _]) ho5).r2 hsh.s2 fun a6 c6 h6 ho6 => ?_
      conv => whnf
      refine Ext.pushI rfl (ho6.perm (List.Perm.swap _ _ _)) rfl rfl hlk fun a7 c7 h7 ho7 => ?_
      conv => whnf
      refine Ext.fourV rfl ho7 rfl rfl rfl rfl fun g8 h8 hle8 ho8 => ?_
      conv => whnf
      have hrd : RunIn h8 d rp := hid (A := [_, _]) ho8
      have hy8 : RowOk h8 (rowI (.slice a7 (d.links ++ [d.id]).length c7) (d.links ++ [d.id])) := ho8.rowOk (List.mem_cons_of_mem _ List.mem_cons_self)
      have hz8 : RowOk h8 (rowV (.slice (some ⟨g8, 0, none⟩) 4 4) [(1, 1), (0, 0), (0, 0), (0, 0)]) := ho8.rowOk List.mem_cons_self
      have hend : (cbHp cb).le h8 := cb_le ho8.tail.tail
      refine (iRunOk_con { d with mail := d.mail.take m } rp ⟨hsh.s0, by show (d.mail.take m).length ≤ _; rw [List.length_take]; have := hsh.s1; omega, hsh.s2, hsh.s3⟩ h8 ⟨hrd.r0, less_row hrd.r1 m hm, hrd.r2, hrd.r3⟩).mono ?_
      rintro r h9 ⟨rfl, rfl⟩
      rw [runB_less hrun m]
      conv => whnf
      refine ⟨fun _ => ?_, fun h => absurd h (by simp)⟩
      conv => whnf
      refine (iRunOk_con { d with links := d.links ++ [d.id] } { rp with a2 := a7, k2 := c7 } ⟨hsh.s0, hsh.s1, by show (d.links ++ [d.id]).length ≤ _; rw [List.length_append, List.length_singleton]; omega, hsh.s3⟩ h9 ⟨hrd.r0, hrd.r1, hy8, hrd.r3⟩).mono ?_
      rintro r h10 ⟨rfl, rfl⟩
      rw [runB_own d]
      conv => whnf
      refine ⟨fun _ => ?_, fun h => absurd h (by simp)⟩
      conv => whnf
      refine (iRunOk_con { d with full := 0, slots := [(1, 1), (0, 0), (0, 0), (0, 0)] } { rp with a0 := some ⟨g8, 0, none⟩, k0 := 4 } ⟨by show 4 ≤ 1000000; decide, hsh.s1, hsh.s2, hsh.s3⟩ h10 ⟨hz8, hrd.r1, hrd.r2, hrd.r3⟩).mono ?_
      rintro r h11 ⟨rfl, rfl⟩
      rw [runB_full d]
      conv => whnf
      exact ⟨rfl, hend⟩
theorem walk (a0 : Option Addr) (len0 cap0 : Nat) (a1 : Option Addr) (len1 cap1 : Nat) (w : World) (h0 : Eld.Code0 w a0 len0 cap0) : Calls Try.prog 5 #[.slice a0 len0 cap0, .slice a1 len1 cap1] w fun e w' => e = .returned (.bool true) ∧ Below w.heap.size w w' := by
  obtain ⟨cb, hc, hi⟩ := code_in h0
  exact ((law a0 len0 cap0 a1 len1 cap1 cb hc).run w hi).mono fun e w' ⟨v, h', he, hy, hi', hf⟩ => yes_below hi hi' hf he hy
set_option maxRecDepth 100000 in
theorem lifted (os : Os) (started : os.Started) (H : Type) (enc : TypeId × Value → H) :
    ReturnsInHanded {} Try.checked os 5 .any (Rows.fnRunLessSpec.pre6 enc Try.prog Try.f5 Rows.fnRunLessRow.domain false) (Rows.fnRunLessSpec.post enc Try.prog Try.f5 false true false false) := by
  refine returnsInHanded_of_change (C := Try.checked) own started (by kernel_rfl) Try.func5
    (ChangeSpec.witness6 (enc := enc) (C := Try.checked) false ⟨#[], #[.slice none 0 0, .slice none 0 0], []⟩ 8 (by kernel_rfl) (by kernel_rfl) (by kernel_rfl) (by kernel_rfl)) ?_
  intro W base args ds gs before hval0 hW hcnd _
  have hval : ∀ (j : Nat) t v, Try.f5.params[j]? = some t → args[j]? = some v → Value.okWide Try.prog W .any base t v := hval0
  have hW' := hW
  obtain ⟨p, q, hA0, hV, rfl, hfz, hnd⟩ := hW
  have hA : DataW.TrodAll enc Try.prog W 0 (fun _ => true) true Try.f5.params.toList args.toList ds p := hA0
  rw [Try.params5] at hA hval
  obtain ⟨v0, vs0, d0, ds0, p0, q0, hargs, rfl, rfl, h0, r0⟩ := trodAll_cons hA
  obtain ⟨v1, vs1, d1, ds1, p1, q1, rfl, rfl, rfl, h1, r1⟩ := trodAll_cons r0
  obtain ⟨rfl, rfl, rfl⟩ := trodAll_nil r1
  obtain rfl : args = #[v0, v1] := by cases args; simp_all
  obtain ⟨rfl, rfl⟩ := trodVars_none hV
  obtain ⟨a0, len0, cap0, rfl⟩ := okWide_slice Try.underlying22 (hval 0 22 v0 rfl rfl)
  have k0 := h0
  have lt0 : ∀ x ∈ p0, x.block < W.heap.size := by obtain ⟨m, hm⟩ := k0; exact DataW.trod_lt m _ _ _ hm
  obtain ⟨a1, len1, cap1, rfl⟩ := okWide_slice Try.underlying22 (hval 1 22 v1 rfl rfl)
  have k1 := h1
  have lt1 : ∀ x ∈ p1, x.block < W.heap.size := by obtain ⟨m, hm⟩ := k1; exact DataW.trod_lt m _ _ _ hm
  have w0 : Eld.Code0 W a0 len0 cap0 := by
    obtain ⟨fuel, hf⟩ := h0
    rcases open_ints Try.underlying22 Try.underlying5 (by kernel_rfl) hf with ⟨hcs, _⟩ | ⟨x, l, c, zs, hcs, _, hl, hm, hz, _, hcell, hwz⟩
    · simp [Value.cells] at hcs
      obtain ⟨rfl, rfl, rfl⟩ := hcs
      exact Eld.code_of_row (zs := []) (.inl ⟨rfl, rfl, rfl, rfl⟩)
    · simp [Value.cells] at hcs
      obtain ⟨rfl, rfl, rfl⟩ := hcs
      exact Eld.code_of_row (zs := zs) (.inr ⟨_, rfl, hl, hm, by simpa using hz, hcell, hwz⟩)
  clear hA0 hval0
  refine (walk a0 len0 cap0 a1 len1 cap1 W w0).mono fun e W' ⟨he, bel⟩ => ?_
  subst he
  exact ⟨_, rfl, _, _, _, [], _, [], hW', trodAll_mk1 (shut_bool Try.underlying4 _), (trodAll_cons_mk (Below.trod laidOut (by kernel_rfl) (of_decide_eq_true (by kernel_rfl)) k0 bel lt0) (trodAll_cons_mk (Below.trod laidOut (by kernel_rfl) (of_decide_eq_true (by kernel_rfl)) k1 bel lt1) trodAll_mk0)), rfl, bel.frame _, fun h => by cases h⟩
theorem over : Rows.fnRunLessRow.holds Try.pinned (OpenSpec.ofChange Rows.fnRunLessSpec) :=
  OpenClaim.holds_of_wide 5 Try.f5 rfl rfl rfl rfl rfl rfl rfl ⟨rfl, rfl, rfl, rfl, rfl⟩ rfl rfl rfl rfl rfl (by kernel_rfl) Try.func5 (by kernel_rfl)
    (of_decide_eq_true (by kernel_rfl)) (by unfold Func.isWrapper; first | (rw [if_pos (by decide +kernel)]; kernel_rfl) | (rw [if_neg (by decide +kernel)]; exact ⟨rfl, rfl⟩))
    (fun os started H enc _ => lifted os started H enc)
end FnRunLess
/-- the given statement -/
theorem fnRunLess_holds : Rows.FnRunLessSaid := FnRunLess.over
#print axioms fnRunLess_holds
end Go.Proofs.Ytklgpkkghhaccaa
