/-
  RunPut of both sides, in memory that is owned (over this translation). No condition but those told.
  FnRunPut answers true for all codes: a drawn run with a slot filled. No condition.
-/
import Derived.Test.YtklgpkkghhaccaaSk
import Derived.Test.YtklgpkkghhaccaaQm
import Derived.Test.YtklgpkkghhaccaaQn
namespace Go.Proofs.Ytklgpkkghhaccaa
open Go.RowKit
set_option maxRecDepth 100000
theorem icopied_con (d : RunD) (p : RunP) (hs : d.Sh) (h : Hp) (o : RunIn h d p) (l : List Atom) (ho : Own h l) :
    Con Try.prog 37 #[d.val p] h fun r h' => ∃ q, r = d.val q ∧ h.le h' ∧ Own h' (runRows (d, q) ++ l) := by
  refine ⟨Try.call37 _, fun w hw => (Eld.copied_any w.heap.size d.toE p.toE w (Nat.le_refl _) hs.toE (o.mem hw)).mono fun e w' ⟨q, he, hr, hb⟩ => ?_⟩
  obtain ⟨h', hle, hown, hi, hf⟩ := Own.addRun hw ho hr hb
  exact ⟨_, h', he, ⟨RunP.ofE q, rfl, hle, hown⟩, hi, hf⟩
theorem scopy_con (d : RunD) (p : RunP) (hs : d.Sh) (h : Hp) (o : RunIn h d p) (l : List Atom) (ho : Own h l) :
    Con Try.prog 42 #[d.val p] h fun r h' => ∃ q, r = d.val q ∧ h.le h' ∧ Own h' (runRows (d, q) ++ l) := by
  refine ⟨Try.call42 _, fun w hw => (Eld.l11Copy_any w.heap.size d.toE p.toE w (Nat.le_refl _) hs.toE (o.mem hw)).mono fun e w' ⟨q, he, hr, hb⟩ => ?_⟩
  obtain ⟨h', hle, hown, hi, hf⟩ := Own.addRun hw ho hr hb
  exact ⟨_, h', he, ⟨RunP.ofE q, rfl, hle, hown⟩, hi, hf⟩
theorem lvRun_con (d : RunD) (p q : RunP) (hs : d.Sh) (h : Hp) (o : RunIn h d p) (o2 : RunIn h d q) : Con Try.prog 16 #[d.val p, d.val q] h fun r h' => r = .bool true ∧ h' = h := by
  refine Con.of_below (Try.call16 _) fun w hw => ?_
  exact (Eld.lvRun_same w.heap.size d.toE p.toE q.toE w (Nat.le_refl _) hs.toE (o.mem hw) (o2.mem hw)).mono fun e w' ⟨he, hb⟩ => ⟨⟨_, he, rfl⟩, hb⟩
def zeroD : RunD := ⟨0, 0, [], 0, [], 0, 0, [], [], false, 0, 0, 0⟩
def zeroP : RunP := ⟨none, 0, none, 0, none, 0, none, 0⟩
theorem zero_own {h : Hp} {l : List Atom} (o : Own h l) : Own h (runRows (zeroD, zeroP) ++ l) := by
  have nil : ∀ {m : List Atom} (e : TypeId) (sz : Nat), Own h m → Own h (.row ⟨e, sz, .slice none 0 0, 0, []⟩ :: m) := fun {m} e sz om =>
    om.add (y := .row ⟨e, sz, .slice none 0 0, 0, []⟩) ⟨by simp, .inl ⟨rfl, rfl⟩⟩ (fun g e => by cases e) (fun _ _ => rfl)
  exact nil _ _ (nil _ _ (nil _ _ (nil _ _ o)))
/-- a run with a slot filled, or nothing -/
def putC (d : RunD) (s : Int) (v : Int × Int) : Bool := Eld.runB d.toE && (decide (0 ≤ s) && decide (s ≤ 3)) && okV v
def putRD (d : RunD) (s : Int) (v : Int × Int) : RunD := if putC d s v = true then d.put s.toNat v else zeroD
theorem l2Slot_con (n : Int) (h : Hp) : Con Try.prog 40 #[.int .i64 n] h fun r h' => r = .bool (decide (0 ≤ n) && decide (n ≤ 3)) ∧ h' = h := by
  refine Con.of_W (tb := tbE) (args := [.int .i64 n]) Try.func40 rfl Try.results40 Try.ntmps40 (by simp) (Try.call40 _) (tm := [(0, .v (.int .i64 n))]) rfl ?_
  refine vc_ok ⟨tbE_ok, _, Try.func40, Try.results40, Try.ntmps40⟩ 400 _ _ _ _ ?_
  conv => whnf
  refine (l6In_con _ _ _ h).mono ?_
  rintro r h1 ⟨rfl, rfl⟩
  conv => whnf
  exact ⟨rfl, rfl⟩
theorem isSlot_con (n : Int) (h : Hp) : Con Try.prog 36 #[.int .i64 n] h fun r h' => r = .bool (decide (0 ≤ n) && decide (n ≤ 3)) ∧ h' = h := by
  refine Con.of_W (tb := tbE) (args := [.int .i64 n]) Try.func36 rfl Try.results36 Try.ntmps36 (by simp) (Try.call36 _) (tm := [(0, .v (.int .i64 n))]) rfl ?_
  refine vc_ok ⟨tbE_ok, _, Try.func36, Try.results36, Try.ntmps36⟩ 400 _ _ _ _ ?_
  conv => whnf
  refine ⟨fun h1 => ?_, fun h1 => ?_⟩ <;> conv => whnf
  · exact ⟨by rw [show decide (0 ≤ n) = true from h1, Bool.true_and]; rfl, rfl⟩
  · exact ⟨by rw [show decide (0 ≤ n) = false from h1, Bool.false_and]; rfl, rfl⟩
theorem iValOk_con (v : Int × Int) (h : Hp) : Con Try.prog 34 #[.agg #[.int .i64 v.1, .int .i64 v.2]] h fun r h' => r = .bool (okV v) ∧ h' = h := by
  refine Con.of_below (Try.call34 _) fun w _ => ?_
  exact (Eld.implOk_any v.1 v.2 w).mono fun e w' ⟨he, hb⟩ => ⟨⟨_, he, rfl⟩, hb⟩
theorem slotBit_con (n : Int) (h0 : 0 ≤ n) (h3 : n ≤ 3) (h : Hp) : Con Try.prog 38 #[.int .i64 n] h fun r h' => r = .int .i64 (Eld.bit5 n) ∧ h' = h := by
  refine Con.of_below (Try.call38 _) fun w _ => ?_
  exact (Eld.slotBit5_any n w h0 (by omega)).mono fun e w' ⟨he, hw⟩ => ⟨⟨_, he, rfl⟩, by rw [hw]; exact Below.refl _ _⟩
theorem sRunPut_con (d : RunD) (p : RunP) (s : Int) (v : Int × Int) (hs : d.Sh) (hd4 : d.slots.length = 4) (hb : Eld.specRB d.toE = Eld.runB d.toE) (h : Hp) (o : RunIn h d p) (l : List Atom) (ho : Own h l) :
    Con Try.prog 17 #[d.val p, .int .i64 s, .agg #[.int .i64 v.1, .int .i64 v.2]] h fun r h' => ∃ q, r = (putRD d s v).val q ∧ Own h' (runRows (putRD d s v, q) ++ l) := by
  refine Con.of_W (tb := tbE) (args := [d.val p, .int .i64 s, .agg #[.int .i64 v.1, .int .i64 v.2]]) Try.func17 rfl Try.results17 Try.ntmps17 (by simp) (Try.call17 _) (tm := [(0, .a (d.cells p)), (1, .v (.int .i64 s)), (2, .a [.int .i64 v.1, .int .i64 v.2])]) rfl ?_
  refine vc_ok ⟨tbE_ok, _, Try.func17, Try.results17, Try.ntmps17⟩ 400 _ _ _ _ ?_
  conv => whnf
  refine (sRunOk_con d p hs h o).mono ?_
  rintro r h1 ⟨rfl, rfl⟩
  rw [hb]
  conv => whnf
  have no : putC d s v = false → ∃ q, Value.agg #[.int .i64 0, .int .i64 0, .slice none 0 0, .int .i64 0, .slice none 0 0, .int .i64 0, .int .i64 0, .slice none 0 0, .slice none 0 0, .bool false, .int .i64 0, .int .i64 0, .int .i64 0] = (putRD d s v).val q ∧ Own h1 (runRows (putRD d s v, q) ++ l) := fun e => by
    have hz : putRD d s v = zeroD := by unfold putRD; rw [e]; rfl
    rw [hz]
    exact ⟨zeroP, rfl, zero_own ho⟩
  refine ⟨fun hr => ?_, fun hr => ?_⟩ <;> conv => whnf
  · have hr' : Eld.runB d.toE = true := by simpa using hr
    refine (l2Slot_con s h1).mono ?_
    rintro r h2 ⟨rfl, rfl⟩
    conv => whnf
    refine ⟨fun hk => ?_, fun hk => ?_⟩ <;> conv => whnf
    · have hk' : (decide (0 ≤ s) && decide (s ≤ 3)) = true := by simpa using hk
      refine (valOk_con v h2).mono ?_
      rintro r h3 ⟨rfl, rfl⟩
      conv => whnf
      refine ⟨fun hv => ?_, fun hv => ?_⟩ <;> conv => whnf
      · have hv' : okV v = false := by simpa using hv
        exact no (by unfold putC; rw [hv', Bool.and_false])
      · have hv' : okV v = true := by simpa using hv
        have hp : putRD d s v = d.put s.toNat v := by unfold putRD putC; rw [hr', hk', hv']; rfl
        rw [Bool.and_eq_true, decide_eq_true_eq, decide_eq_true_eq] at hk'
        refine W.draw [(0, true), (2, true), (3, true), (1, false), (4, false), (5, false)] [0, 1] none 99 (by kernel_rfl) rfl (by kernel_rfl) mixed rfl (fun g e => by cases e) ?_
        refine vc_ok ⟨tbE_ok, _, Try.func17, Try.results17, Try.ntmps17⟩ 400 _ _ _ _ ?_
        conv => whnf
        refine (scopy_con d p hs h3 o l ho).mono ?_
        rintro r h4 ⟨q, rfl, hle, ho4⟩
        conv => whnf
        obtain ⟨k, rfl⟩ : ∃ k : Nat, s = (k : Int) := ⟨s.toNat, by omega⟩
        refine (l11Put_con d q k (by omega) hd4 v h4 l ho4).mono ?_
        rintro r h5 ⟨rfl, ho5⟩
        conv => whnf
        rw [hp]
        exact ⟨q, rfl, ho5⟩
    · have hk' : (decide (0 ≤ s) && decide (s ≤ 3)) = false := by
        generalize (decide (0 ≤ s) && decide (s ≤ 3)) = b at hk ⊢
        cases b
        · rfl
        · cases hk
      exact no (by unfold putC; rw [hk', Bool.and_false, Bool.false_and])
  · have hr' : Eld.runB d.toE = false := by simpa using hr
    exact no (by unfold putC; rw [hr', Bool.false_and, Bool.false_and])
theorem Rd.orI {t t' : TypeId} {o : Oper} {x y : Operand} (ho : o.op = .binOp .or t x y t') {ev : Operand → Value} {h : Hp} {K : Value → Prop} {a b : Int} (hx : ev x = .int .i64 a) (hy : ev y = .int .i64 b) (k : K (.int .i64 (bits .or .i64 a b))) : Rd Try.prog (execOp ev o) h K :=
  ⟨_, fun w _ => by simp [execOp, ho, hx, hy, eqGuard, binOp]; rfl, k⟩
theorem or_with {f : Int} (h0 : 0 ≤ f) (h1 : f ≤ 15) {k : Nat} (hk : k < 4) : bits .or .i64 f (Eld.bit5 (k : Int)) = withB f k := by
  obtain ⟨i, hi⟩ : ∃ i : _root_.Fin 16, f = (i.val : Int) := ⟨⟨f.toNat, by omega⟩, by simp; omega⟩
  obtain ⟨j, hj⟩ : ∃ j : _root_.Fin 4, k = j.val := ⟨⟨k, hk⟩, rfl⟩
  subst hi hj
  clear h0 h1 hk
  revert i j
  decide +kernel
theorem iRunPut_con (d : RunD) (p : RunP) (s : Int) (v : Int × Int) (hs : d.Sh) (hd4 : d.slots.length = 4) (h : Hp) (o : RunIn h d p) (l : List Atom) (ho : Own h l) :
    Con Try.prog 15 #[d.val p, .int .i64 s, .agg #[.int .i64 v.1, .int .i64 v.2]] h fun r h' => ∃ q, r = (putRD d s v).val q ∧ Own h' (runRows (putRD d s v, q) ++ l) := by
  refine Con.of_W (tb := tbE) (args := [d.val p, .int .i64 s, .agg #[.int .i64 v.1, .int .i64 v.2]]) Try.func15 rfl Try.results15 Try.ntmps15 (by simp) (Try.call15 _) (tm := [(0, .a (d.cells p)), (1, .v (.int .i64 s)), (2, .a [.int .i64 v.1, .int .i64 v.2])]) rfl ?_
  refine vc_ok ⟨tbE_ok, _, Try.func15, Try.results15, Try.ntmps15⟩ 400 _ _ _ _ ?_
  conv => whnf
  refine (iRunOk_con d p hs h o).mono ?_
  rintro r h1 ⟨rfl, rfl⟩
  conv => whnf
  have no : putC d s v = false → ∃ q, Value.agg #[.int .i64 0, .int .i64 0, .slice none 0 0, .int .i64 0, .slice none 0 0, .int .i64 0, .int .i64 0, .slice none 0 0, .slice none 0 0, .bool false, .int .i64 0, .int .i64 0, .int .i64 0] = (putRD d s v).val q ∧ Own h1 (runRows (putRD d s v, q) ++ l) := fun e => by
    have hz : putRD d s v = zeroD := by unfold putRD; rw [e]; rfl
    rw [hz]
    exact ⟨zeroP, rfl, zero_own ho⟩
  refine ⟨fun hr => ?_, fun hr => ?_⟩ <;> conv => whnf
  · have hr' : Eld.runB d.toE = true := by simpa using hr
    refine (isSlot_con s h1).mono ?_
    rintro r h2 ⟨rfl, rfl⟩
    conv => whnf
    refine ⟨fun hk => ?_, fun hk => ?_⟩ <;> conv => whnf
    · have hk' : (decide (0 ≤ s) && decide (s ≤ 3)) = true := by simpa using hk
      refine (iValOk_con v h2).mono ?_
      rintro r h3 ⟨rfl, rfl⟩
      conv => whnf
      refine ⟨fun hv => ?_, fun hv => ?_⟩ <;> conv => whnf
      · have hv' : okV v = false := by simpa using hv
        exact no (by unfold putC; rw [hv', Bool.and_false])
      · have hv' : okV v = true := by simpa using hv
        have hp : putRD d s v = d.put s.toNat v := by unfold putRD putC; rw [hr', hk', hv']; rfl
        rw [Bool.and_eq_true, decide_eq_true_eq, decide_eq_true_eq] at hk'
        refine (icopied_con d p hs h3 o l ho).mono ?_
        rintro r h4 ⟨⟨a0, k0, a1, k1, a2, k2, a3, k3⟩, rfl, hle, ho4⟩
        conv => whnf
        obtain ⟨k, rfl⟩ : ∃ k : Nat, s = (k : Int) := ⟨s.toNat, by omega⟩
        have hk4 : k < 4 := by omega
        obtain ⟨g, hg⟩ := row_some (ho4.ok _ List.mem_cons_self) (by show 0 < d.slots.length; omega)
        dsimp only at hg
        subst hg
        refine Ext.index slVal.u slVal.size rfl rfl rfl k rfl (by omega) ?_
        conv => whnf
        refine Ext.store tbE_ok rfl rfl ho4 rfl rfl rfl (encV v) rfl rfl (by show 0 + k * 2 + 2 ≤ d.slots.length * 2; omega) (by simp [encV, Value.oneCell']) fun h5 ho5 => ?_
        conv => whnf
        refine W.draw [(0, true), (1, true), (2, true), (3, false), (4, true), (5, true), (6, false)] [3] none 6 (by kernel_rfl) rfl (by kernel_rfl) mixed rfl (fun g e => by cases e) ?_
        refine vc_ok ⟨tbE_ok, _, Try.func15, Try.results15, Try.ntmps15⟩ 400 _ _ _ _ ?_
        conv => whnf
        refine (slotBit_con k (by omega) (by omega) h5).mono ?_
        rintro r h6 ⟨rfl, rfl⟩
        conv => whnf
        refine Rd.orI rfl rfl rfl ?_
        have hfull : 0 ≤ d.full ∧ d.full ≤ 15 := by
          have h9 := hr'
          unfold Eld.runB Eld.slotsB at h9
          simp only [Bool.and_eq_true, decide_eq_true_eq] at h9
          exact h9.2.2.1.2.1
        rw [or_with hfull.1 hfull.2 hk4]
        conv => whnf
        rw [hp]
        have e1 : putL (0 + k * 2) (encV v) (d.slots.flatMap encV) = (d.slots.set k v).flatMap encV := by
          have := flat_set encV 2 encV_len d.slots k (by omega) 0 (encV v) (by simp [encV]) v (by simp [putL, encV])
          rw [Nat.zero_add, ← this, Nat.add_zero]
        rw [e1] at ho5
        refine ⟨⟨some ⟨g, 0, none⟩, k0, a1, k1, a2, k2, a3, k3⟩, ?_, ?_⟩
        · show Value.agg _ = Value.agg _
          simp [RunD.put]
        · simpa [runRows, RunD.put, rowV] using ho5
    · have hk' : (decide (0 ≤ s) && decide (s ≤ 3)) = false := by
        generalize (decide (0 ≤ s) && decide (s ≤ 3)) = b at hk ⊢
        cases b
        · rfl
        · cases hk
      exact no (by unfold putC; rw [hk', Bool.and_false, Bool.false_and])
  · have hr' : Eld.runB d.toE = false := by simpa using hr
    exact no (by unfold putC; rw [hr', Bool.false_and, Bool.false_and])
end Go.Proofs.Ytklgpkkghhaccaa
namespace Go.Proofs.Ytklgpkkghhaccaa
open Go.ChangeShapes Go.WideShapes Go.ChangeAt Go.RowKit Go.Joins
set_option maxRecDepth 100000
/-- a slot's bit, as the laws read it -/
def lvB (bits : Int) : Nat → Bool
  | 0 => bits.tmod 2 == 1
  | k + 1 => lvB (bits.tdiv 2) k
theorem tdiv2_wrap {b : Int} (h0 : 0 ≤ b) (h1 : b ≤ 15) : IntKind.i64.wrap (b.tdiv 2) = b.tdiv 2 ∧ 0 ≤ b.tdiv 2 ∧ b.tdiv 2 ≤ 15 := by
  rw [Int.tdiv_eq_ediv_of_nonneg h0]
  exact ⟨wrapN _ (by omega) (by omega), by omega, by omega⟩
theorem lvB_put {f : Int} (h0 : 0 ≤ f) (h1 : f ≤ 15) {k j : Nat} (hk : k < 4) (hj : j < 4) : lvB (withB f k) j = (decide (k = j) || lvB f j) := by
  obtain ⟨i, hi⟩ : ∃ i : _root_.Fin 16, f = (i.val : Int) := ⟨⟨f.toNat, by omega⟩, by simp; omega⟩
  obtain ⟨x, hx⟩ : ∃ x : _root_.Fin 4, k = x.val := ⟨⟨k, hk⟩, rfl⟩
  obtain ⟨y, hy⟩ : ∃ y : _root_.Fin 4, j = y.val := ⟨⟨j, hj⟩, rfl⟩
  subst hi hx hy
  clear h0 h1 hk hj
  revert i x y
  decide +kernel
theorem withB_in {f : Int} (h0 : 0 ≤ f) (h1 : f ≤ 15) {k : Nat} (hk : k < 4) : (0 ≤ withB f k ∧ withB f k ≤ 15) ∧ withB (withB f k) k = withB f k := by
  obtain ⟨i, hi⟩ : ∃ i : _root_.Fin 16, f = (i.val : Int) := ⟨⟨f.toNat, by omega⟩, by simp; omega⟩
  obtain ⟨x, hx⟩ : ∃ x : _root_.Fin 4, k = x.val := ⟨⟨k, hk⟩, rfl⟩
  subst hi hx
  clear h0 h1 hk
  revert i x
  decide +kernel
theorem withB_has {f : Int} (h0 : 0 ≤ f) (h1 : f ≤ 15) {k j : Nat} (hk : k < 4) (hj : j < 4) : Eld.hasF (withB f k) j = (decide (k = j) || Eld.hasF f j) := by
  obtain ⟨i, hi⟩ : ∃ i : _root_.Fin 16, f = (i.val : Int) := ⟨⟨f.toNat, by omega⟩, by simp; omega⟩
  obtain ⟨x, hx⟩ : ∃ x : _root_.Fin 4, k = x.val := ⟨⟨k, hk⟩, rfl⟩
  obtain ⟨y, hy⟩ : ∃ y : _root_.Fin 4, j = y.val := ⟨⟨j, hj⟩, rfl⟩
  subst hi hx hy
  clear h0 h1 hk hj
  revert i x y
  decide +kernel
theorem run_full {d : RunD} (h : Eld.runB d.toE = true) : (0 ≤ d.full ∧ d.full ≤ 15) ∧ d.slots.length = 4 := by
  unfold Eld.runB Eld.slotsB at h
  simp only [Bool.and_eq_true, decide_eq_true_eq, beq_iff_eq] at h
  exact ⟨h.2.2.1.2.1, h.2.2.1.1⟩
theorem runB_put {d : RunD} (h : Eld.runB d.toE = true) {k : Nat} (hk : k < 4) {v : Int × Int} (hv : okV v = true) : Eld.runB (d.put k v).toE = true := by
  obtain ⟨⟨f0, f1⟩, h4⟩ := run_full h
  have hw := withB_in f0 f1 hk
  unfold Eld.runB Eld.slotsB at h ⊢
  simp only [Bool.and_eq_true, decide_eq_true_eq, beq_iff_eq, List.all_eq_true, List.mem_range] at h ⊢
  obtain ⟨h1, h2, ⟨h3, _, h5⟩, h6, h7, h8, h9, h10⟩ := h
  refine ⟨h1, h2, ⟨?_, hw.1, fun j hj => ?_⟩, h6, h7, h8, h9, h10⟩
  · show (d.slots.set k v).length = 4
    rw [List.length_set]; exact h4
  · have := h5 j hj
    show Eld.slotQ (withB d.full k) (d.slots.set k v) j = true
    have this' : Eld.slotQ d.full d.slots j = true := this
    unfold Eld.slotQ at this' ⊢
    rw [withB_has f0 f1 hk hj]
    by_cases e : k = j
    · subst e
      have : (d.slots.set k v).getD k (0, 0) = v := by rw [List.getD_eq_getElem?_getD, List.getElem?_set_self (by omega)]; rfl
      rw [this]
      simp only [decide_true, Bool.true_or, Bool.and_true]
      exact hv
    · have : (d.slots.set k v).getD j (0, 0) = d.slots.getD j (0, 0) := by rw [List.getD_eq_getElem?_getD, List.getElem?_set_ne e, ← List.getD_eq_getElem?_getD]
      rw [this]
      simpa [e] using this'
theorem put_put {d : RunD} (h : Eld.runB d.toE = true) {k : Nat} (hk : k < 4) (v : Int × Int) : (d.put k v).put k v = d.put k v := by
  obtain ⟨⟨f0, f1⟩, h4⟩ := run_full h
  unfold RunD.put
  simp [(withB_in f0 f1 hk).2]
theorem Rd.eqV {o : Oper} {x y : Operand} {t2 : TypeId} (ho : o.op = .binOp .eql 26 x y t2) {ev : Operand → Value} {h : Hp} {K : Value → Prop} {a b c d : Int} (hx : ev x = .agg #[.int .i64 a, .int .i64 b]) (hy : ev y = .agg #[.int .i64 c, .int .i64 d]) (k : K (.bool (a == c && b == d))) : Rd Try.prog (execOp ev o) h K := by
  refine ⟨_, fun w _ => ?_, k⟩
  unfold execOp
  rw [ho]
  refine run_value _ w _ _ ?_
  rw [hx, hy]
  exact eqV_run a b c d x y w
theorem Rd.eqlB {o : Oper} {x y : Operand} {t2 : TypeId} (ho : o.op = .binOp .eql 4 x y t2) {ev : Operand → Value} {h : Hp} {K : Value → Prop} {a b : Bool} (hx : ev x = .bool a) (hy : ev y = .bool b) (k : K (.bool (a == b))) : Rd Try.prog (execOp ev o) h K := by
  refine ⟨_, fun w _ => ?_, k⟩
  have := eqlB_run a b x y w
  simp only [execOp, ho, hx, hy]
  exact run_value _ w _ w this
/-- a part of memory -/
def keepB (h : Hp) (bs : List Nat) : Hp := fun b => if b ∈ bs then h b else none
theorem keep_le {h h' : Hp} {bs : List Nat} (k : ∀ b ∈ bs, ∀ o, h b = some o → h' b = some o) : (keepB h bs).le h' := fun b o e => by
  unfold keepB at e
  split at e
  · rename_i hb; exact k b hb o e
  · cases e
theorem keep_at {h : Hp} {bs : List Nat} {b : Nat} (hb : b ∈ bs) : keepB h bs b = h b := if_pos hb
theorem putRD_sh {d : RunD} (h : d.Sh) (h4 : d.slots.length = 4) (s : Int) (v : Int × Int) : (putRD d s v).Sh := by
  unfold putRD
  split
  · exact ⟨by show (d.slots.set _ _).length ≤ _; rw [List.length_set]; omega, h.s1, h.s2, h.s3⟩
  · exact ⟨Nat.zero_le _, Nat.zero_le _, Nat.zero_le _, Nat.zero_le _⟩
theorem putRD_yes {d : RunD} (h : Eld.runB d.toE = true) {k : Nat} (hk : k < 4) {v : Int × Int} (hv : okV v = true) : putRD d (k : Int) v = d.put k v := by
  have h3 : decide ((k : Int) ≤ 3) = true := by simp; omega
  have h0 : decide (0 ≤ (k : Int)) = true := by simp
  unfold putRD putC; rw [h, hv, h0, h3]; rfl
theorem lvBit_con (b : Int) (h0 : 0 ≤ b) (h1 : b ≤ 15) (k : Nat) (hk : k < 4) (h : Hp) : Con Try.prog 19 #[.int .i64 b, .int .i64 k] h fun r h' => r = .bool (lvB b k) ∧ h' = h := by
  refine Con.of_W (tb := tbE) (args := [.int .i64 b, .int .i64 k]) Try.func19 rfl Try.results19 Try.ntmps19 (by simp) (Try.call19 _) (tm := [(0, .v (.int .i64 b)), (1, .v (.int .i64 k))]) rfl ?_
  refine vc_ok ⟨tbE_ok, _, Try.func19, Try.results19, Try.ntmps19⟩ 400 _ _ _ _ ?_
  conv => whnf
  refine W.cut [(1, .v (.int .i64 k)), (0, .v (.int .i64 b)), (5, .v (.int .i64 (0 : Nat)))] [] [] ⟨rfl, rfl, rfl, trivial⟩ rfl rfl ⟨_, rfl⟩ ?_
  refine W.loop (α := Nat × Int) (fun x => [(1, .v (.int .i64 k)), (0, .v (.int .i64 x.2)), (5, .v (.int .i64 (x.1 : Int)))]) (fun _ => []) (fun x h' => x.1 ≤ k ∧ (0 ≤ x.2 ∧ x.2 ≤ 15) ∧ lvB b k = lvB x.2 (k - x.1) ∧ h' = h) (fun x => k - x.1) ?_ (0, b) h ⟨Nat.zero_le _, ⟨h0, h1⟩, rfl, rfl⟩
  rintro ⟨i, c⟩ h' ⟨hi, ⟨c0, c1⟩, he, rfl⟩ ih
  dsimp only at hi c0 c1 he ⊢
  refine vc_ok ⟨tbE_ok, _, Try.func19, Try.results19, Try.ntmps19⟩ 400 _ _ _ _ ?_
  conv => whnf
  obtain ⟨q1, q2, q3⟩ := tdiv2_wrap c0 c1
  refine ⟨fun h6 => ?_, fun h6 => ?_⟩ <;> conv => whnf
  · have hlt : i < k := by simp at h6; omega
    refine Ext.quo (b := 2) rfl rfl rfl (by decide) ?_
    conv => whnf
    have hw : IntKind.i64.wrap ((i : Int) + 1) = ((i + 1 : Nat) : Int) := by rw [wrapN _ (by omega) (by omega)]; omega
    rw [hw, q1]
    have hs : lvB c (k - i) = lvB (c.tdiv 2) (k - (i + 1)) := by rw [show k - i = k - (i + 1) + 1 by omega]; rfl
    exact W.back (ih (i + 1, c.tdiv 2) h' ⟨hlt, ⟨q2, q3⟩, he.trans hs, rfl⟩ (by dsimp only; omega)) [] (by exact ⟨rfl, rfl, rfl, trivial⟩) rfl rfl
  · have hge : i = k := by simp at h6; omega
    refine Ext.rem (b := 2) rfl rfl rfl (by decide) ?_
    conv => whnf
    refine ⟨?_, rfl⟩
    rw [he, hge, Nat.sub_self]
    rfl
theorem lvVals_con (L : List (Int × Int)) (a b : Option Addr) (k m : Nat) (hl : L.length ≤ 1000000) (h : Hp) (o : RowOk h (rowV (.slice a L.length k) L)) (o2 : RowOk h (rowV (.slice b L.length m) L)) : Con Try.prog 20 #[.slice a L.length k, .slice b L.length m] h fun r h' => r = .bool true ∧ h' = h := by
  refine Con.of_below (Try.call20 _) fun w hw => ?_
  exact (Eld.lvVals_same w.heap.size L _ _ w (by omega) (vals_at o hw) (vals_at o2 hw)).mono fun e w' ⟨he, hb⟩ => ⟨⟨_, he, rfl⟩, hb⟩
end Go.Proofs.Ytklgpkkghhaccaa
