/-
  FnRunPut answers true for all codes: a drawn run with a slot filled. No condition.
-/
import Derived.Test.YtklgpkkghhaccaaRl
import Derived.Test.YtklgpkkghhaccaaRj
namespace Go.Proofs.Ytklgpkkghhaccaa
open Go.ChangeShapes Go.WideShapes Go.ChangeAt Go.RowKit Go.Joins
set_option maxRecDepth 100000
namespace FnRunPut
theorem law (a : Option Addr) (len cap : Nat) (a1 : Option Addr) (len1 cap1 : Nat) (cb : Option (Nat × Obj)) (hc : CodeIn a len cap cb) :
    Con Try.prog 4 #[.slice a len cap, .slice a1 len1 cap1] (cbHp cb) (Yes cb) := by
  refine Con.of_W (tb := tbE) (args := [.slice a len cap, .slice a1 len1 cap1]) Try.func4 rfl Try.results4 Try.ntmps4 (by simp) (Try.call4 _) (tm := [(0, .v (.slice a len cap)), (1, .v (.slice a1 len1 cap1))]) rfl ?_
  refine vc_ok ⟨tbE_ok, _, Try.func4, Try.results4, Try.ntmps4⟩ 400 _ _ _ _ ?_
  conv => whnf
  refine Ext.len Try.underlying22 rfl rfl ?_
  conv => whnf
  refine ⟨fun _ => ?_, fun _ => ?_⟩ <;> conv => whnf
  rotate_left
  · exact ⟨rfl, Hp.le_refl _⟩
  refine Ext.len Try.underlying22 rfl rfl ?_
  conv => whnf
  refine ⟨fun _ => ?_, fun _ => ?_⟩ <;> conv => whnf
  · exact ⟨rfl, Hp.le_refl _⟩
  have ho : Own (cbHp cb) (cbAtoms cb ++ []) := by rw [List.append_nil]; exact cb_own cb
  refine (drawRunPut_con a len cap cb hc _ [] ho).mono ?_
  rintro r h1 ⟨d, rp, s, v, rfl, hd, hs0, hs4, ho1⟩
  have hin : RunIn h1 d rp := ho1.run fun x hx => List.mem_append_right _ (List.mem_append_left _ hx)
  have hsh := hd.sh
  have hboth := hd.both
  have hd4 : d.slots.length = 4 := hd.facts.1
  conv => whnf
  refine (iRunPut_con d rp s v hsh hd4 h1 hin _ ho1).mono ?_
  rintro r h2 ⟨q2, rfl, ho2⟩
  conv => whnf
  have hin2 : RunIn h2 d rp := ho2.run fun x hx => List.mem_append_right _ (List.mem_append_right _ (List.mem_append_left _ hx))
  have hshp : (putRD d s v).Sh := putRD_sh hsh hd4 s v
  refine W.draw [(0, true), (1, true), (2, true), (3, true), (4, false), (5, false), (6, true), (7, true), (8, true), (9, false), (10, true), (11, true), (12, true), (13, true), (14, true), (15, true), (16, true), (17, true), (18, true), (19, true), (20, true), (21, true), (22, false), (23, true), (24, true)] [0, 1, 2] none 99 (by kernel_rfl) rfl (by kernel_rfl) mixed rfl (fun g e => by cases e) ?_
  refine vc_ok ⟨tbE_ok, _, Try.func4, Try.results4, Try.ntmps4⟩ 400 _ _ _ _ ?_
  conv => whnf
  refine (sRunPut_con d rp s v hsh hd4 hboth h2 hin2 _ ho2).mono ?_
  rintro r h3 ⟨q3, rfl, ho3⟩
  conv => whnf
  refine (lvRun_con (putRD d s v) q2 q3 hshp h3 (ho3.run fun x hx => List.mem_append_right _ (List.mem_append_left _ hx)) (ho3.run fun x hx => List.mem_append_left _ hx)).mono ?_
  rintro r h4 ⟨rfl, rfl⟩
  conv => whnf
  have hin3 : RunIn h4 d rp := ho3.run fun x hx => List.mem_append_right _ (List.mem_append_right _ (List.mem_append_right _ (List.mem_append_left _ hx)))
  refine ⟨fun _ => ?_, fun h5 => absurd h5 (by simp)⟩
  conv => whnf
  refine (sRunOk_con d rp hsh h4 hin3).mono ?_
  rintro r h5 ⟨rfl, rfl⟩
  rw [hboth]
  conv => whnf
  refine ⟨fun hr => ?_, fun hr => ?_⟩ <;> conv => whnf
  rotate_left
  · refine W.draw [(0, true), (1, true), (2, true), (3, true), (4, false), (5, false), (6, true)] [0, 1, 2] none 99 (by kernel_rfl) rfl (by kernel_rfl) mixed rfl (fun g e => by cases e) ?_
    refine vc_ok ⟨tbE_ok, _, Try.func4, Try.results4, Try.ntmps4⟩ 400 _ _ _ _ ?_
    conv => whnf
    refine (sRunPut_con d rp s v hsh hd4 hboth h5 hin3 _ ho3).mono ?_
    rintro r h8 ⟨q8, rfl, ho8⟩
    conv => whnf
    refine (lvRun_con (putRD d s v) q2 q8 hshp h8 (ho8.run fun x hx => List.mem_append_right _ (List.mem_append_right _ (List.mem_append_left _ hx))) (ho8.run fun x hx => List.mem_append_left _ hx)).mono ?_
    rintro r h9 ⟨rfl, rfl⟩
    conv => whnf
    exact ⟨rfl, cb_le ho8.right.right.right⟩
  have hr' : Eld.runB d.toE = true := by simpa using hr
  refine ⟨fun hk => ?_, fun hk => ?_⟩ <;> conv => whnf
  rotate_left
  · refine W.draw [(0, true), (1, true), (2, true), (3, true), (4, false), (5, false), (6, true)] [0, 1, 2] none 99 (by kernel_rfl) rfl (by kernel_rfl) mixed rfl (fun g e => by cases e) ?_
    refine vc_ok ⟨tbE_ok, _, Try.func4, Try.results4, Try.ntmps4⟩ 400 _ _ _ _ ?_
    conv => whnf
    refine (sRunPut_con d rp s v hsh hd4 hboth h5 hin3 _ ho3).mono ?_
    rintro r h8 ⟨q8, rfl, ho8⟩
    conv => whnf
    refine (lvRun_con (putRD d s v) q2 q8 hshp h8 (ho8.run fun x hx => List.mem_append_right _ (List.mem_append_right _ (List.mem_append_left _ hx))) (ho8.run fun x hx => List.mem_append_left _ hx)).mono ?_
    rintro r h9 ⟨rfl, rfl⟩
    conv => whnf
    exact ⟨rfl, cb_le ho8.right.right.right⟩
  refine ⟨fun hk2 => ?_, fun hk2 => ?_⟩ <;> conv => whnf
  rotate_left
  · refine W.draw [(0, true), (1, true), (2, true), (3, true), (4, false), (5, false), (6, true)] [0, 1, 2] none 99 (by kernel_rfl) rfl (by kernel_rfl) mixed rfl (fun g e => by cases e) ?_
    refine vc_ok ⟨tbE_ok, _, Try.func4, Try.results4, Try.ntmps4⟩ 400 _ _ _ _ ?_
    conv => whnf
    refine (sRunPut_con d rp s v hsh hd4 hboth h5 hin3 _ ho3).mono ?_
    rintro r h8 ⟨q8, rfl, ho8⟩
    conv => whnf
    refine (lvRun_con (putRD d s v) q2 q8 hshp h8 (ho8.run fun x hx => List.mem_append_right _ (List.mem_append_right _ (List.mem_append_left _ hx))) (ho8.run fun x hx => List.mem_append_left _ hx)).mono ?_
    rintro r h9 ⟨rfl, rfl⟩
    conv => whnf
    exact ⟨rfl, cb_le ho8.right.right.right⟩
  refine (valOk_con v h5).mono ?_
  rintro r h6 ⟨rfl, rfl⟩
  conv => whnf
  refine ⟨fun hv => ?_, fun hv => ?_⟩ <;> conv => whnf
  · refine W.draw [(0, true), (1, true), (2, true), (3, true), (4, false), (5, false), (6, true)] [0, 1, 2] none 99 (by kernel_rfl) rfl (by kernel_rfl) mixed rfl (fun g e => by cases e) ?_
    refine vc_ok ⟨tbE_ok, _, Try.func4, Try.results4, Try.ntmps4⟩ 400 _ _ _ _ ?_
    conv => whnf
    refine (sRunPut_con d rp s v hsh hd4 hboth h6 hin3 _ ho3).mono ?_
    rintro r h8 ⟨q8, rfl, ho8⟩
    conv => whnf
    refine (lvRun_con (putRD d s v) q2 q8 hshp h8 (ho8.run fun x hx => List.mem_append_right _ (List.mem_append_right _ (List.mem_append_left _ hx))) (ho8.run fun x hx => List.mem_append_left _ hx)).mono ?_
    rintro r h9 ⟨rfl, rfl⟩
    conv => whnf
    exact ⟨rfl, cb_le ho8.right.right.right⟩
  have hv' : okV v = true := by simpa using hv
  obtain ⟨k, rfl⟩ : ∃ k : Nat, s = (k : Int) := ⟨s.toNat, by omega⟩
  have hk4 : k < 4 := by
    have : decide ((k : Int) > 3) = false := hk2
    simp at this; omega
  have hp : putRD d (k : Int) v = d.put k v := putRD_yes hr' hk4 hv'
  rw [hp] at ho2 ho3 hshp ⊢
  refine Ext.len Try.underlying22 rfl rfl ?_
  conv => whnf
  refine Ext.rem (b := 3) rfl rfl rfl (by decide) ?_
  conv => whnf
  refine Ext.rem (b := 4) rfl rfl rfl (by decide) ?_
  conv => whnf
  obtain ⟨j, hj4, hjk, hje⟩ : ∃ j : Nat, j < 4 ∧ k ≠ j ∧ (IntKind.i64.wrap (IntKind.i64.wrap ((k : Int) + 1) + (len1 : Int).tmod 3)).tmod 4 = (j : Int) := by
    have hm : (len1 : Int).tmod 3 = (len1 : Int) % 3 := Int.tmod_eq_emod_of_nonneg (by omega)
    rw [hm, wrapN ((k : Int) + 1) (by omega) (by omega), wrapN _ (by omega) (by omega), Int.tmod_eq_emod_of_nonneg (by omega)]
    exact ⟨(((k : Int) + 1 + (len1 : Int) % 3) % 4).toNat, by omega, by omega, by omega⟩
  rw [hje]
  refine W.cut [(5, .p 0 0), (6, .v (.int .i64 (k : Nat))), (7, .p 1 0), (8, .p 2 0), (9, .v (.int .i64 (j : Nat)))] [⟨28, d.cells rp⟩, ⟨26, encV v⟩, ⟨28, (d.put k v).cells q2⟩] [] ⟨rfl, rfl, rfl, rfl, rfl, trivial⟩ rfl rfl ⟨_, rfl⟩ ?_
  have hrunP : Eld.runB (d.put k v).toE = true := runB_put hr' hk4 hv'
  have hP4 : (d.put k v).slots.length = 4 := by show (d.slots.set k v).length = 4; rw [List.length_set]; exact hd4
  obtain ⟨⟨f0, f1⟩, _⟩ := run_full hr'
  obtain ⟨⟨w0, w1⟩, _⟩ := withB_in f0 f1 hk4
  have hinP : RunIn h6 (d.put k v) q2 := ho3.run fun x hx => List.mem_append_right _ (List.mem_append_left _ hx)
  obtain ⟨gP, hgP⟩ := row_some hinP.r0 (by show 0 < (d.put k v).slots.length; rw [hP4]; decide)
  obtain ⟨gd, hgd⟩ := row_some hin3.r0 (by show 0 < d.slots.length; rw [hd4]; decide)
  have ho4 : Own h6 (.row (rowV (.slice q2.a0 (d.put k v).slots.length q2.k0) (d.put k v).slots) :: .row (rowV (.slice rp.a0 d.slots.length rp.k0) d.slots) :: (cbAtoms cb ++ ((runRows (d.put k v, q2)).tail ++ (runRows (d, rp)).tail))) := by
    refine ho3.right.perm ?_
    classical
    rw [List.perm_iff_count]
    intro x
    simp only [runRows, List.tail_cons, List.count_append, List.count_cons, List.count_nil]
    omega
  obtain ⟨obP, hobP, ho5, htP⟩ := ho4.freeze (by show Value.slice q2.a0 _ _ = _; rw [hgP])
  obtain ⟨obd, hobd, ho7, htd⟩ := (ho5.perm (List.Perm.swap _ _ _)).freeze (by show Value.slice rp.a0 _ _ = _; rw [hgd])
  generalize hL : cbAtoms cb ++ ((runRows (d.put k v, q2)).tail ++ (runRows (d, rp)).tail) = L at ho7
  have hblk : ∀ {h' : Hp} {A : List Atom}, Own h' (A ++ (.blk gd obd :: .blk gP obP :: L)) → h' gd = some obd ∧ h' gP = some obP := fun o => ⟨o.ok (.blk gd obd) (List.mem_append_right _ List.mem_cons_self), o.ok (.blk gP obP) (List.mem_append_right _ (List.mem_cons_of_mem _ List.mem_cons_self))⟩
  have hM : ∀ {h' : Hp} {A : List Atom}, Own h' (A ++ (.blk gd obd :: .blk gP obP :: L)) → (keepB h6 [gd, gP]).le h' := fun o => keep_le fun b hb ob e => by
    obtain ⟨e1, e2⟩ := hblk o
    rcases List.mem_cons.1 hb with rfl | hb
    · rw [e1, ← e, hobd]
    · rw [List.mem_singleton.1 hb] at e ⊢
      rw [e2, ← e, hobP]
  have hsub : ∀ {h' : Hp} {A : List Atom}, Own h' (A ++ (.blk gd obd :: .blk gP obP :: L)) → Own h' (cbAtoms cb ++ ((runRows (d.put k v, q2)).tail ++ (runRows (d, rp)).tail)) := fun o => by rw [hL]; exact o.right.tail.tail
  have inP : ∀ {h' : Hp} {A : List Atom}, Own h' (A ++ (.blk gd obd :: .blk gP obP :: L)) → RunIn h' (d.put k v) q2 := fun o =>
    ⟨htP _ (hblk o).2, (hsub o).rowOk (by simp [runRows]), (hsub o).rowOk (by simp [runRows]), (hsub o).rowOk (by simp [runRows])⟩
  have hrP : RowOk (keepB h6 [gd, gP]) _ := htP _ ((keep_at (by simp)).trans hobP)
  have hrd : RowOk (keepB h6 [gd, gP]) _ := htd _ ((keep_at (by simp)).trans hobd)
  clear hin hin2 ho1 ho2 ho3 ho4 ho5
  refine W.draw [(0, true), (1, true), (2, true), (3, true), (4, true), (5, true), (6, true), (7, true), (8, true), (9, true), (10, true), (11, false), (12, true), (13, true), (14, true), (15, true), (16, true), (17, true), (18, true), (19, true), (20, true), (21, true), (22, true), (23, true), (24, true), (25, true), (26, true), (27, true), (28, true), (29, true), (31, true), (32, true), (33, true), (30, false), (34, false), (35, true), (36, true), (37, true), (38, true), (39, true), (40, true), (41, true), (42, false), (43, true), (44, true), (45, true), (46, true), (47, true), (49, true), (48, false), (50, false), (51, true), (52, true), (53, true), (54, false), (55, true), (56, true)] [0, 1, 2] (some (keepB h6 [gd, gP])) 99 (by kernel_rfl) rfl (by kernel_rfl) mixed rfl (fun g e => by cases e; exact hM (A := []) ho7) ?_
  refine vc_ok ⟨tbE_ok, _, Try.func4, Try.results4, Try.ntmps4⟩ 400 _ _ _ _ ?_
  conv => whnf
  refine Rd.index slVal.u slVal.size rfl (by show Value.slice q2.a0 (d.put k v).slots.length q2.k0 = _; rw [hgP]) rfl k rfl (by rw [hP4]; exact hk4) ?_
  conv => whnf
  refine Rd.loadVal rfl hrP (by rw [hgP]) (by rw [hP4]; exact hk4) rfl ?_
  conv => whnf
  refine Rd.eqV rfl rfl rfl ?_
  have ek : (d.put k v).slots[k]'(by rw [hP4]; exact hk4) = v := List.getElem_set_self _
  rw [ek]
  conv => whnf
  refine ⟨fun _ => ?_, fun h9 => absurd h9 (by simp)⟩
  conv => whnf
  refine (lvBit_con (withB d.full k) w0 w1 k hk4 h6).mono ?_
  rintro r h8 ⟨rfl, rfl⟩
  conv => whnf
  have e1 : lvB (withB d.full k) k = true := by rw [lvB_put f0 f1 hk4 hk4]; simp
  rw [e1]
  refine ⟨hM (A := []) ho7, ?_⟩
  conv => whnf
  refine ⟨fun _ => ?_, fun h9 => absurd h9 (by simp)⟩
  conv => whnf
  refine Rd.index slVal.u slVal.size rfl (by show Value.slice q2.a0 (d.put k v).slots.length q2.k0 = _; rw [hgP]) rfl j rfl (by rw [hP4]; exact hj4) ?_
  conv => whnf
  refine Rd.loadVal rfl hrP (by rw [hgP]) (by rw [hP4]; exact hj4) rfl ?_
  conv => whnf
  refine Rd.index slVal.u slVal.size rfl (by show Value.slice rp.a0 d.slots.length rp.k0 = _; rw [hgd]) rfl j rfl (by rw [hd4]; exact hj4) ?_
  conv => whnf
  refine Rd.loadVal rfl hrd (by rw [hgd]) (by rw [hd4]; exact hj4) rfl ?_
  conv => whnf
  refine Rd.eqV rfl rfl rfl ?_
  have ej : (d.put k v).slots[j]'(by rw [hP4]; exact hj4) = d.slots[j]'(by rw [hd4]; exact hj4) := List.getElem_set_ne hjk _
  rw [ej]
  conv => whnf
  refine ⟨fun _ => ?_, fun h9 => absurd h9 (by simp)⟩
  conv => whnf
  refine (lvBit_con (withB d.full k) w0 w1 j hj4 h8).mono ?_
  rintro r h9 ⟨rfl, rfl⟩
  refine ⟨hM (A := []) ho7, ?_⟩
  conv => whnf
  refine (lvBit_con d.full f0 f1 j hj4 h9).mono ?_
  rintro r h10 ⟨rfl, rfl⟩
  refine ⟨hM (A := []) ho7, ?_⟩
  have e2 : lvB (withB d.full k) j = lvB d.full j := by rw [lvB_put f0 f1 hk4 hj4]; simp [hjk]
  rw [e2]
  conv => whnf
  refine Rd.eqlB rfl rfl rfl ?_
  conv => whnf
  refine ⟨fun _ => ?_, fun h11 => absurd h11 (by simp)⟩
  conv => whnf
  refine (lvVals_con d.mail q2.a1 rp.a1 q2.k1 rp.k1 hsh.s1 h10 hinP.r1 hin3.r1).mono ?_
  rintro r h11 ⟨rfl, rfl⟩
  refine ⟨hM (A := []) ho7, ?_⟩
  conv => whnf
  refine ⟨fun _ => ?_, fun h12 => absurd h12 (by simp)⟩
  conv => whnf
  refine (iRunPut_con (d.put k v) q2 (k : Nat) v hshp hP4 h11 hinP _ ho7).mono ?_
  rintro r h12 ⟨q4, rfl, ho12⟩
  rw [putRD_yes hrunP hk4 hv', put_put hr' hk4 v] at ho12 ⊢
  refine ⟨hM ho12, ?_⟩
  conv => whnf
  refine (lvRun_con (d.put k v) q4 q2 hshp h12 (ho12.run fun x hx => List.mem_append_left _ hx) (inP ho12)).mono ?_
  rintro r h13 ⟨rfl, rfl⟩
  refine ⟨hM ho12, ?_⟩
  conv => whnf
  refine ⟨fun _ => ?_, fun h14 => absurd h14 (by simp)⟩
  conv => whnf
  refine (iRunOk_con (d.put k v) q2 hshp h13 (inP ho12)).mono ?_
  rintro r h14 ⟨rfl, rfl⟩
  rw [hrunP]
  refine ⟨hM ho12, ?_⟩
  conv => whnf
  exact ⟨rfl, cb_le (hsub ho12)⟩
theorem walk (a0 : Option Addr) (len0 cap0 : Nat) (a1 : Option Addr) (len1 cap1 : Nat) (w : World) (h0 : Eld.Code0 w a0 len0 cap0) : Calls Try.prog 4 #[.slice a0 len0 cap0, .slice a1 len1 cap1] w fun e w' => e = .returned (.bool true) ∧ Below w.heap.size w w' := by
  obtain ⟨cb, hc, hi⟩ := code_in h0
  exact ((law a0 len0 cap0 a1 len1 cap1 cb hc).run w hi).mono fun e w' ⟨v, h', he, hy, hi', hf⟩ => yes_below hi hi' hf he hy
set_option maxRecDepth 100000 in
theorem lifted (os : Os) (started : os.Started) (H : Type) (enc : TypeId × Value → H) :
    ReturnsInHanded {} Try.checked os 4 .any (Rows.fnRunPutSpec.pre6 enc Try.prog Try.f4 Rows.fnRunPutRow.domain false) (Rows.fnRunPutSpec.post enc Try.prog Try.f4 false true false false) := by
  refine returnsInHanded_of_change (C := Try.checked) own started (by kernel_rfl) Try.func4
    (ChangeSpec.witness6 (enc := enc) (C := Try.checked) false ⟨#[], #[.slice none 0 0, .slice none 0 0], []⟩ 8 (by kernel_rfl) (by kernel_rfl) (by kernel_rfl) (by kernel_rfl)) ?_
  intro W base args ds gs before hval0 hW hcnd _
  have hval : ∀ (j : Nat) t v, Try.f4.params[j]? = some t → args[j]? = some v → Value.okWide Try.prog W .any base t v := hval0
  have hW' := hW
  obtain ⟨p, q, hA0, hV, rfl, hfz, hnd⟩ := hW
  have hA : DataW.TrodAll enc Try.prog W 0 (fun _ => true) true Try.f4.params.toList args.toList ds p := hA0
  rw [Try.params4] at hA hval
  obtain ⟨v0, vs0, d0, ds0, p0, q0, hargs, rfl, rfl, h0, r0⟩ := trodAll_cons hA
  obtain ⟨v1, vs1, d1, ds1, p1, q1, rfl, rfl, rfl, h1, r1⟩ := trodAll_cons r0
  obtain ⟨rfl, rfl, rfl⟩ := trodAll_nil r1
  obtain rfl : args = #[v0, v1] := by cases args; simp_all
  obtain ⟨rfl, rfl⟩ := trodVars_none hV
  obtain ⟨a0, len0, cap0, rfl⟩ := okWide_slice Try.underlying22 (hval 0 22 v0 rfl rfl)
  have k0 := h0
  have lt0 : ∀ x ∈ p0, x.block < W.heap.size := by obtain ⟨m, hm⟩ := k0; exact DataW.trod_lt m _ _ _ hm
  obtain ⟨a1, len1, cap1, rfl⟩ := okWide_slice Try.underlying22 (hval 1 22 v1 rfl rfl)
  have k1 := h1
  have lt1 : ∀ x ∈ p1, x.block < W.heap.size := by obtain ⟨m, hm⟩ := k1; exact DataW.trod_lt m _ _ _ hm
  have w0 : Eld.Code0 W a0 len0 cap0 := by
    obtain ⟨fuel, hf⟩ := h0
    rcases open_ints Try.underlying22 Try.underlying5 (by kernel_rfl) hf with ⟨hcs, _⟩ | ⟨x, l, c, zs, hcs, _, hl, hm, hz, _, hcell, hwz⟩
    · simp [Value.cells] at hcs
      obtain ⟨rfl, rfl, rfl⟩ := hcs
      exact Eld.code_of_row (zs := []) (.inl ⟨rfl, rfl, rfl, rfl⟩)
    · simp [Value.cells] at hcs
      obtain ⟨rfl, rfl, rfl⟩ := hcs
      exact Eld.code_of_row (zs := zs) (.inr ⟨_, rfl, hl, hm, by simpa using hz, hcell, hwz⟩)
  clear hA0 hval0
  refine (walk a0 len0 cap0 a1 len1 cap1 W w0).mono fun e W' ⟨he, bel⟩ => ?_
  subst he
  exact ⟨_, rfl, _, _, _, [], _, [], hW', trodAll_mk1 (shut_bool Try.underlying4 _), (trodAll_cons_mk (Below.trod laidOut (by kernel_rfl) (of_decide_eq_true (by kernel_rfl)) k0 bel lt0) (trodAll_cons_mk (Below.trod laidOut (by kernel_rfl) (of_decide_eq_true (by kernel_rfl)) k1 bel lt1) trodAll_mk0)), rfl, bel.frame _, fun h => by cases h⟩
theorem over : Rows.fnRunPutRow.holds Try.pinned (OpenSpec.ofChange Rows.fnRunPutSpec) :=
  OpenClaim.holds_of_wide 4 Try.f4 rfl rfl rfl rfl rfl rfl rfl ⟨rfl, rfl, rfl, rfl, rfl⟩ rfl rfl rfl rfl rfl (by kernel_rfl) Try.func4 (by kernel_rfl)
    (of_decide_eq_true (by kernel_rfl)) (by unfold Func.isWrapper; first | (rw [if_pos (by decide +kernel)]; kernel_rfl) | (rw [if_neg (by decide +kernel)]; exact ⟨rfl, rfl⟩))
    (fun os started H enc _ => lifted os started H enc)
end FnRunPut
/-- the given statement -/
theorem fnRunPut_holds : Rows.FnRunPutSaid := FnRunPut.over
#print axioms fnRunPut_holds
end Go.Proofs.Ytklgpkkghhaccaa
