/-
  FnPutTwo answers true for all codes: of two slots filled either may be first. No condition.
-/
import Derived.Test.YtklgpkkghhaccaaSl
import Derived.Test.YtklgpkkghhaccaaSj
namespace Go.Proofs.Ytklgpkkghhaccaa
open Go.ChangeShapes Go.WideShapes Go.ChangeAt Go.RowKit Go.Joins
set_option maxRecDepth 100000
namespace FnPutTwo
theorem withB_comm {f : Int} (h0 : 0 ≤ f) (h1 : f ≤ 15) {k j : Nat} (hk : k < 4) (hj : j < 4) : withB (withB f k) j = withB (withB f j) k := by
  obtain ⟨i, hi⟩ : ∃ i : _root_.Fin 16, f = (i.val : Int) := ⟨⟨f.toNat, by omega⟩, by simp; omega⟩
  obtain ⟨x, hx⟩ : ∃ x : _root_.Fin 4, k = x.val := ⟨⟨k, hk⟩, rfl⟩
  obtain ⟨y, hy⟩ : ∃ y : _root_.Fin 4, j = y.val := ⟨⟨j, hj⟩, rfl⟩
  subst hi hx hy
  clear h0 h1 hk hj
  revert i x y
  decide +kernel
theorem put_comm {d : RunD} (h : Eld.runB d.toE = true) {k j : Nat} (hk : k < 4) (hj : j < 4) (hjk : k ≠ j) (v u : Int × Int) : (d.put k v).put j u = (d.put j u).put k v := by
  obtain ⟨⟨f0, f1⟩, h4⟩ := run_full h
  unfold RunD.put
  simp [withB_comm f0 f1 hk hj, List.set_comm v u hjk]
theorem put_len (d : RunD) (k : Nat) (v : Int × Int) : (d.put k v).slots.length = d.slots.length := by show (d.slots.set k v).length = _; rw [List.length_set]
theorem put_sh {d : RunD} (h : d.Sh) (k : Nat) (v : Int × Int) : (d.put k v).Sh := ⟨by rw [put_len]; exact h.s0, h.s1, h.s2, h.s3⟩
theorem law (a : Option Addr) (len cap : Nat) (a1 : Option Addr) (len1 cap1 : Nat) (cb : Option (Nat × Obj)) (hc : CodeIn a len cap cb) :
    Con Try.prog 7 #[.slice a len cap, .slice a1 len1 cap1] (cbHp cb) (Yes cb) := by
  refine Con.of_W (tb := tbE) (args := [.slice a len cap, .slice a1 len1 cap1]) Try.func7 rfl Try.results7 Try.ntmps7 (by simp) (Try.call7 _) (tm := [(0, .v (.slice a len cap)), (1, .v (.slice a1 len1 cap1))]) rfl ?_
  refine vc_ok ⟨tbE_ok, _, Try.func7, Try.results7, Try.ntmps7⟩ 400 _ _ _ _ ?_
  conv => whnf
  refine Ext.len Try.underlying22 rfl rfl ?_
  conv => whnf
  refine ⟨fun _ => ?_, fun _ => ?_⟩ <;> conv => whnf
  rotate_left
  · exact ⟨rfl, Hp.le_refl _⟩
  refine Ext.len Try.underlying22 rfl rfl ?_
  conv => whnf
  refine ⟨fun _ => ?_, fun _ => ?_⟩ <;> conv => whnf
  · exact ⟨rfl, Hp.le_refl _⟩
  have ho : Own (cbHp cb) (cbAtoms cb ++ []) := by rw [List.append_nil]; exact cb_own cb
  refine (drawRunPut_con a len cap cb hc _ [] ho).mono ?_
  rintro r h1 ⟨d, rp, s, v, rfl, hd, hs0, hs4, ho1⟩
  have hin : RunIn h1 d rp := ho1.run fun x hx => List.mem_append_right _ (List.mem_append_left _ hx)
  have hsh := hd.sh
  have hboth := hd.both
  have hd4 : d.slots.length = 4 := hd.facts.1
  conv => whnf
  refine (iRunPut_con d rp s v hsh hd4 h1 hin _ ho1).mono ?_
  rintro r h2 ⟨q2, rfl, ho2⟩
  conv => whnf
  have hin2 : RunIn h2 d rp := ho2.run fun x hx => List.mem_append_right _ (List.mem_append_right _ (List.mem_append_left _ hx))
  have hshp : (putRD d s v).Sh := putRD_sh hsh hd4 s v
  refine W.draw [(0, true), (1, true), (2, true), (3, true), (4, false), (5, false), (6, true), (7, true), (8, true), (9, false), (10, true), (11, true), (12, true), (13, true), (14, true), (15, true), (16, true), (17, true), (18, true), (19, true), (20, true), (21, true), (22, false), (23, true), (24, true)] [0, 1, 2] none 99 (by kernel_rfl) rfl (by kernel_rfl) mixed rfl (fun g e => by cases e) ?_
  refine vc_ok ⟨tbE_ok, _, Try.func7, Try.results7, Try.ntmps7⟩ 400 _ _ _ _ ?_
  conv => whnf
  refine (sRunPut_con d rp s v hsh hd4 hboth h2 hin2 _ ho2).mono ?_
  rintro r h3 ⟨q3, rfl, ho3⟩
  conv => whnf
  refine (lvRun_con (putRD d s v) q2 q3 hshp h3 (ho3.run fun x hx => List.mem_append_right _ (List.mem_append_left _ hx)) (ho3.run fun x hx => List.mem_append_left _ hx)).mono ?_
  rintro r h4 ⟨rfl, rfl⟩
  conv => whnf
  have hin3 : RunIn h4 d rp := ho3.run fun x hx => List.mem_append_right _ (List.mem_append_right _ (List.mem_append_right _ (List.mem_append_left _ hx)))
  refine ⟨fun _ => ?_, fun h5 => absurd h5 (by simp)⟩
  conv => whnf
  refine (sRunOk_con d rp hsh h4 hin3).mono ?_
  rintro r h5 ⟨rfl, rfl⟩
  rw [hboth]
  conv => whnf
  refine ⟨fun hr => ?_, fun hr => ?_⟩ <;> conv => whnf
  rotate_left
  · refine W.draw [(0, true), (1, true), (2, true), (3, true), (4, false), (5, false), (6, true)] [0, 1, 2] none 99 (by kernel_rfl) rfl (by kernel_rfl) mixed rfl (fun g e => by cases e) ?_
    refine vc_ok ⟨tbE_ok, _, Try.func7, Try.results7, Try.ntmps7⟩ 400 _ _ _ _ ?_
    conv => whnf
    refine (sRunPut_con d rp s v hsh hd4 hboth h5 hin3 _ ho3).mono ?_
    rintro r h8 ⟨q8, rfl, ho8⟩
    conv => whnf
    refine (lvRun_con (putRD d s v) q2 q8 hshp h8 (ho8.run fun x hx => List.mem_append_right _ (List.mem_append_right _ (List.mem_append_left _ hx))) (ho8.run fun x hx => List.mem_append_left _ hx)).mono ?_
    rintro r h9 ⟨rfl, rfl⟩
    conv => whnf
    exact ⟨rfl, cb_le ho8.right.right.right⟩
  have hr' : Eld.runB d.toE = true := by simpa using hr
  refine ⟨fun hk => ?_, fun hk => ?_⟩ <;> conv => whnf
  rotate_left
  · refine W.draw [(0, true), (1, true), (2, true), (3, true), (4, false), (5, false), (6, true)] [0, 1, 2] none 99 (by kernel_rfl) rfl (by kernel_rfl) mixed rfl (fun g e => by cases e) ?_
    refine vc_ok ⟨tbE_ok, _, Try.func7, Try.results7, Try.ntmps7⟩ 400 _ _ _ _ ?_
    conv => whnf
    refine (sRunPut_con d rp s v hsh hd4 hboth h5 hin3 _ ho3).mono ?_
    rintro r h8 ⟨q8, rfl, ho8⟩
    conv => whnf
    refine (lvRun_con (putRD d s v) q2 q8 hshp h8 (ho8.run fun x hx => List.mem_append_right _ (List.mem_append_right _ (List.mem_append_left _ hx))) (ho8.run fun x hx => List.mem_append_left _ hx)).mono ?_
    rintro r h9 ⟨rfl, rfl⟩
    conv => whnf
    exact ⟨rfl, cb_le ho8.right.right.right⟩
  refine ⟨fun hk2 => ?_, fun hk2 => ?_⟩ <;> conv => whnf
  rotate_left
  · refine W.draw [(0, true), (1, true), (2, true), (3, true), (4, false), (5, false), (6, true)] [0, 1, 2] none 99 (by kernel_rfl) rfl (by kernel_rfl) mixed rfl (fun g e => by cases e) ?_
    refine vc_ok ⟨tbE_ok, _, Try.func7, Try.results7, Try.ntmps7⟩ 400 _ _ _ _ ?_
    conv => whnf
    refine (sRunPut_con d rp s v hsh hd4 hboth h5 hin3 _ ho3).mono ?_
    rintro r h8 ⟨q8, rfl, ho8⟩
    conv => whnf
    refine (lvRun_con (putRD d s v) q2 q8 hshp h8 (ho8.run fun x hx => List.mem_append_right _ (List.mem_append_right _ (List.mem_append_left _ hx))) (ho8.run fun x hx => List.mem_append_left _ hx)).mono ?_
    rintro r h9 ⟨rfl, rfl⟩
    conv => whnf
    exact ⟨rfl, cb_le ho8.right.right.right⟩
  refine (valOk_con v h5).mono ?_
  rintro r h6 ⟨rfl, rfl⟩
  conv => whnf
  refine ⟨fun hv => ?_, fun hv => ?_⟩ <;> conv => whnf
  · refine W.draw [(0, true), (1, true), (2, true), (3, true), (4, false), (5, false), (6, true)] [0, 1, 2] none 99 (by kernel_rfl) rfl (by kernel_rfl) mixed rfl (fun g e => by cases e) ?_
    refine vc_ok ⟨tbE_ok, _, Try.func7, Try.results7, Try.ntmps7⟩ 400 _ _ _ _ ?_
    conv => whnf
    refine (sRunPut_con d rp s v hsh hd4 hboth h6 hin3 _ ho3).mono ?_
    rintro r h8 ⟨q8, rfl, ho8⟩
    conv => whnf
    refine (lvRun_con (putRD d s v) q2 q8 hshp h8 (ho8.run fun x hx => List.mem_append_right _ (List.mem_append_right _ (List.mem_append_left _ hx))) (ho8.run fun x hx => List.mem_append_left _ hx)).mono ?_
    rintro r h9 ⟨rfl, rfl⟩
    conv => whnf
    exact ⟨rfl, cb_le ho8.right.right.right⟩
  have hv' : okV v = true := by simpa using hv
  obtain ⟨k, rfl⟩ : ∃ k : Nat, s = (k : Int) := ⟨s.toNat, by omega⟩
  have hk4 : k < 4 := by
    have : decide ((k : Int) > 3) = false := hk2
    simp at this; omega
  have hp : putRD d (k : Int) v = d.put k v := putRD_yes hr' hk4 hv'
  rw [hp] at ho2 ho3 hshp ⊢
  refine Ext.len Try.underlying22 rfl rfl ?_
  conv => whnf
  refine Ext.rem (b := 4) rfl rfl rfl (by decide) ?_
  conv => whnf
  obtain ⟨j, hj4, hje⟩ : ∃ j : Nat, j < 4 ∧ (len1 : Int).tmod 4 = (j : Int) := by
    rw [Int.tmod_eq_emod_of_nonneg (by omega)]
    exact ⟨((len1 : Int) % 4).toNat, by omega, by omega⟩
  rw [hje]
  have hrunP : Eld.runB (d.put k v).toE = true := runB_put hr' hk4 hv'
  have hP4 : (d.put k v).slots.length = 4 := by rw [put_len]; exact hd4
  have hu : okV ((2, 3) : Int × Int) = true := by decide
  have hrunU : Eld.runB (d.put j (2, 3)).toE = true := runB_put hr' hj4 hu
  have hinP : RunIn h6 (d.put k v) q2 := ho3.run fun x hx => List.mem_append_right _ (List.mem_append_left _ hx)
  refine (iRunPut_con (d.put k v) q2 (j : Nat) (2, 3) hshp hP4 h6 hinP _ ho3).mono ?_
  rintro r h7 ⟨qa, rfl, ho7⟩
  rw [putRD_yes hrunP hj4 hu] at ho7 ⊢
  conv => whnf
  have hin7 : RunIn h7 d rp := ho7.run fun x hx => List.mem_append_right _ (List.mem_append_right _ (List.mem_append_right _ (List.mem_append_right _ (List.mem_append_left _ hx))))
  refine W.cut [(5, .p 0 0), (6, .v (.int .i64 (k : Nat))), (7, .p 1 0), (8, .p 2 0), (9, .v (.int .i64 (j : Nat))), (10, .p 3 0), (11, .p 4 0)] [⟨28, d.cells rp⟩, ⟨26, encV v⟩, ⟨28, (d.put k v).cells q2⟩, ⟨26, encV ((2, 3) : Int × Int)⟩, ⟨28, ((d.put k v).put j (2, 3)).cells qa⟩] [] ⟨rfl, rfl, rfl, rfl, rfl, rfl, rfl, trivial⟩ rfl rfl ⟨_, rfl⟩ ?_
  refine W.draw [(0, true), (1, true), (2, true), (4, true), (5, true), (1003007, false), (1006007, false), (7, false), (8, false)] [0, 1, 3] none 99 (by kernel_rfl) rfl (by kernel_rfl) mixed rfl (fun g e => by cases e) ?_
  refine vc_ok ⟨tbE_ok, _, Try.func7, Try.results7, Try.ntmps7⟩ 400 _ _ _ _ ?_
  conv => whnf
  refine ⟨?_, ?_⟩ <;> conv => whnf
  · refine (iRunPut_con d rp (j : Nat) (2, 3) hsh hd4 h7 hin7 _ ho7).mono ?_
    rintro r h8 ⟨qb, rfl, ho8⟩
    rw [putRD_yes hr' hj4 hu] at ho8 ⊢
    conv => whnf
    refine ⟨?_, ?_⟩ <;> conv => whnf
    · refine (iRunPut_con (d.put j (2, 3)) qb (k : Nat) v (put_sh hsh j _) (by rw [put_len]; exact hd4) h8 (ho8.run fun x hx => List.mem_append_left _ hx) _ ho8).mono ?_
      rintro r h9 ⟨qc, rfl, ho9⟩
      rw [putRD_yes hrunU hk4 hv'] at ho9 ⊢
      conv => whnf
      have hA : RunIn h9 ((d.put k v).put j (2, 3)) qa := ho9.run fun x hx => List.mem_append_right _ (List.mem_append_right _ (List.mem_append_left _ hx))
      have hB : RunIn h9 ((d.put j (2, 3)).put k v) qc := ho9.run fun x hx => List.mem_append_left _ hx
      have hend : (cbHp cb).le h9 := cb_le ho9.right.right.right.right.right
      refine ⟨fun he => ?_, fun he => ?_⟩ <;> conv => whnf
      · have hjk : j = k := Int.ofNat.inj (by simpa using he)
        have hA4 : ((d.put k v).put j (2, 3)).slots.length = 4 := by rw [put_len, put_len, hd4]
        have hB4 : ((d.put j (2, 3)).put k v).slots.length = 4 := by rw [put_len, put_len, hd4]
        obtain ⟨gA, hgA⟩ := row_some hA.r0 (by show 0 < ((d.put k v).put j (2, 3)).slots.length; rw [hA4]; decide)
        obtain ⟨gB, hgB⟩ := row_some hB.r0 (by show 0 < ((d.put j (2, 3)).put k v).slots.length; rw [hB4]; decide)
        have eA : ((d.put k v).put j (2, 3)).slots[k]'(by rw [hA4]; exact hk4) = (2, 3) := by
          subst hjk
          exact List.getElem_set_self _
        have eB : ((d.put j (2, 3)).put k v).slots[k]'(by rw [hB4]; exact hk4) = v := List.getElem_set_self _
        refine W.draw [(0, true), (1, true), (2, true), (3, true), (4, true), (5, true), (6, true), (7, true), (8, true), (9, true), (10, true), (11, true), (12, true), (13, true), (14, true), (15, true), (16, true)] [1, 3, 4, 5] (some h9) 99 (by kernel_rfl) rfl (by kernel_rfl) mixed rfl (fun g e => by cases e; exact Hp.le_refl _) ?_
        refine vc_ok ⟨tbE_ok, _, Try.func7, Try.results7, Try.ntmps7⟩ 400 _ _ _ _ ?_
        conv => whnf
        refine Rd.index slVal.u slVal.size rfl (by show Value.slice qa.a0 ((d.put k v).put j (2, 3)).slots.length qa.k0 = _; rw [hgA]) rfl k rfl (by rw [hA4]; exact hk4) ?_
        conv => whnf
        refine Rd.loadVal rfl hA.r0 (by rw [hgA]) (by rw [hA4]; exact hk4) rfl ?_
        conv => whnf
        refine Rd.eqV rfl rfl rfl ?_
        rw [eA]
        conv => whnf
        refine ⟨fun _ => ?_, fun h9 => absurd h9 (by simp)⟩
        conv => whnf
        refine Rd.index slVal.u slVal.size rfl (by show Value.slice qc.a0 ((d.put j (2, 3)).put k v).slots.length qc.k0 = _; rw [hgB]) rfl k rfl (by rw [hB4]; exact hk4) ?_
        conv => whnf
        refine Rd.loadVal rfl hB.r0 (by rw [hgB]) (by rw [hB4]; exact hk4) rfl ?_
        conv => whnf
        refine Rd.eqV rfl rfl rfl ?_
        rw [eB]
        conv => whnf
        exact ⟨congrArg Value.bool (by simp), hend⟩
      · have hjk : k ≠ j := fun e => by subst e; simp at he
        rw [put_comm hr' hk4 hj4 hjk v (2, 3)] at hA ⊢
        refine (lvRun_con ((d.put j (2, 3)).put k v) qa qc (put_sh (put_sh hsh _ _) _ _) h9 hA hB).mono ?_
        rintro r h10 ⟨rfl, rfl⟩
        conv => whnf
        exact ⟨rfl, hend⟩
    · refine (iRunPut_con (d.put j (2, 3)) qb (k : Nat) v (put_sh hsh j _) (by rw [put_len]; exact hd4) h8 (ho8.run fun x hx => List.mem_append_left _ hx) _ ho8).mono ?_
      rintro r h9 ⟨qc, rfl, ho9⟩
      rw [putRD_yes hrunU hk4 hv'] at ho9 ⊢
      conv => whnf
      have hA : RunIn h9 ((d.put k v).put j (2, 3)) qa := ho9.run fun x hx => List.mem_append_right _ (List.mem_append_right _ (List.mem_append_left _ hx))
      have hB : RunIn h9 ((d.put j (2, 3)).put k v) qc := ho9.run fun x hx => List.mem_append_left _ hx
      have hend : (cbHp cb).le h9 := cb_le ho9.right.right.right.right.right
      refine ⟨fun he => ?_, fun he => ?_⟩ <;> conv => whnf
      · have hjk : j = k := Int.ofNat.inj (by simpa using he)
        have hA4 : ((d.put k v).put j (2, 3)).slots.length = 4 := by rw [put_len, put_len, hd4]
        have hB4 : ((d.put j (2, 3)).put k v).slots.length = 4 := by rw [put_len, put_len, hd4]
        obtain ⟨gA, hgA⟩ := row_some hA.r0 (by show 0 < ((d.put k v).put j (2, 3)).slots.length; rw [hA4]; decide)
        obtain ⟨gB, hgB⟩ := row_some hB.r0 (by show 0 < ((d.put j (2, 3)).put k v).slots.length; rw [hB4]; decide)
        have eA : ((d.put k v).put j (2, 3)).slots[k]'(by rw [hA4]; exact hk4) = (2, 3) := by
          subst hjk
          exact List.getElem_set_self _
        have eB : ((d.put j (2, 3)).put k v).slots[k]'(by rw [hB4]; exact hk4) = v := List.getElem_set_self _
        refine W.draw [(0, true), (1, true), (2, true), (3, true), (4, true), (5, true), (6, true), (7, true), (8, true), (9, true), (10, true), (11, true), (12, true), (13, true), (14, true), (15, true), (16, true)] [1, 3, 4, 5] (some h9) 99 (by kernel_rfl) rfl (by kernel_rfl) mixed rfl (fun g e => by cases e; exact Hp.le_refl _) ?_
        refine vc_ok ⟨tbE_ok, _, Try.func7, Try.results7, Try.ntmps7⟩ 400 _ _ _ _ ?_
        conv => whnf
        refine Rd.index slVal.u slVal.size rfl (by show Value.slice qa.a0 ((d.put k v).put j (2, 3)).slots.length qa.k0 = _; rw [hgA]) rfl k rfl (by rw [hA4]; exact hk4) ?_
        conv => whnf
        refine Rd.loadVal rfl hA.r0 (by rw [hgA]) (by rw [hA4]; exact hk4) rfl ?_
        conv => whnf
        refine Rd.eqV rfl rfl rfl ?_
        rw [eA]
        conv => whnf
        refine ⟨fun _ => ?_, fun h9 => absurd h9 (by simp)⟩
        conv => whnf
        refine Rd.index slVal.u slVal.size rfl (by show Value.slice qc.a0 ((d.put j (2, 3)).put k v).slots.length qc.k0 = _; rw [hgB]) rfl k rfl (by rw [hB4]; exact hk4) ?_
        conv => whnf
        refine Rd.loadVal rfl hB.r0 (by rw [hgB]) (by rw [hB4]; exact hk4) rfl ?_
        conv => whnf
        refine Rd.eqV rfl rfl rfl ?_
        rw [eB]
        conv => whnf
        exact ⟨congrArg Value.bool (by simp), hend⟩
      · have hjk : k ≠ j := fun e => by subst e; simp at he
        rw [put_comm hr' hk4 hj4 hjk v (2, 3)] at hA ⊢
        refine (lvRun_con ((d.put j (2, 3)).put k v) qa qc (put_sh (put_sh hsh _ _) _ _) h9 hA hB).mono ?_
        rintro r h10 ⟨rfl, rfl⟩
        conv => whnf
        exact ⟨rfl, hend⟩
  · refine (iRunPut_con d rp (j : Nat) (2, 3) hsh hd4 h7 hin7 _ ho7).mono ?_
    rintro r h8 ⟨qb, rfl, ho8⟩
    rw [putRD_yes hr' hj4 hu] at ho8 ⊢
    conv => whnf
    refine (iRunPut_con (d.put j (2, 3)) qb (k : Nat) v (put_sh hsh j _) (by rw [put_len]; exact hd4) h8 (ho8.run fun x hx => List.mem_append_left _ hx) _ ho8).mono ?_
    rintro r h9 ⟨qc, rfl, ho9⟩
    rw [putRD_yes hrunU hk4 hv'] at ho9 ⊢
    conv => whnf
    have hA : RunIn h9 ((d.put k v).put j (2, 3)) qa := ho9.run fun x hx => List.mem_append_right _ (List.mem_append_right _ (List.mem_append_left _ hx))
    have hB : RunIn h9 ((d.put j (2, 3)).put k v) qc := ho9.run fun x hx => List.mem_append_left _ hx
    have hend : (cbHp cb).le h9 := cb_le ho9.right.right.right.right.right
    refine ⟨fun he => ?_, fun he => ?_⟩ <;> conv => whnf
    · have hjk : j = k := Int.ofNat.inj (by simpa using he)
      have hA4 : ((d.put k v).put j (2, 3)).slots.length = 4 := by rw [put_len, put_len, hd4]
      have hB4 : ((d.put j (2, 3)).put k v).slots.length = 4 := by rw [put_len, put_len, hd4]
      obtain ⟨gA, hgA⟩ := row_some hA.r0 (by show 0 < ((d.put k v).put j (2, 3)).slots.length; rw [hA4]; decide)
      obtain ⟨gB, hgB⟩ := row_some hB.r0 (by show 0 < ((d.put j (2, 3)).put k v).slots.length; rw [hB4]; decide)
      have eA : ((d.put k v).put j (2, 3)).slots[k]'(by rw [hA4]; exact hk4) = (2, 3) := by
        subst hjk
        exact List.getElem_set_self _
      have eB : ((d.put j (2, 3)).put k v).slots[k]'(by rw [hB4]; exact hk4) = v := List.getElem_set_self _
      refine W.draw [(0, true), (1, true), (2, true), (3, true), (4, true), (5, true), (6, true), (7, true), (8, true), (9, true), (10, true), (11, true), (12, true), (13, true), (14, true), (15, true), (16, true)] [1, 3, 4, 5] (some h9) 99 (by kernel_rfl) rfl (by kernel_rfl) mixed rfl (fun g e => by cases e; exact Hp.le_refl _) ?_
      refine vc_ok ⟨tbE_ok, _, Try.func7, Try.results7, Try.ntmps7⟩ 400 _ _ _ _ ?_
      conv => whnf
      refine Rd.index slVal.u slVal.size rfl (by show Value.slice qa.a0 ((d.put k v).put j (2, 3)).slots.length qa.k0 = _; rw [hgA]) rfl k rfl (by rw [hA4]; exact hk4) ?_
      conv => whnf
      refine Rd.loadVal rfl hA.r0 (by rw [hgA]) (by rw [hA4]; exact hk4) rfl ?_
      conv => whnf
      refine Rd.eqV rfl rfl rfl ?_
      rw [eA]
      conv => whnf
      refine ⟨fun _ => ?_, fun h9 => absurd h9 (by simp)⟩
      conv => whnf
      refine Rd.index slVal.u slVal.size rfl (by show Value.slice qc.a0 ((d.put j (2, 3)).put k v).slots.length qc.k0 = _; rw [hgB]) rfl k rfl (by rw [hB4]; exact hk4) ?_
      conv => whnf
      refine Rd.loadVal rfl hB.r0 (by rw [hgB]) (by rw [hB4]; exact hk4) rfl ?_
      conv => whnf
      refine Rd.eqV rfl rfl rfl ?_
      rw [eB]
      conv => whnf
      exact ⟨congrArg Value.bool (by simp), hend⟩
    · have hjk : k ≠ j := fun e => by subst e; simp at he
      rw [put_comm hr' hk4 hj4 hjk v (2, 3)] at hA ⊢
      refine (lvRun_con ((d.put j (2, 3)).put k v) qa qc (put_sh (put_sh hsh _ _) _ _) h9 hA hB).mono ?_
      rintro r h10 ⟨rfl, rfl⟩
      conv => whnf
      exact ⟨rfl, hend⟩
theorem walk (a0 : Option Addr) (len0 cap0 : Nat) (a1 : Option Addr) (len1 cap1 : Nat) (w : World) (h0 : Eld.Code0 w a0 len0 cap0) : Calls Try.prog 7 #[.slice a0 len0 cap0, .slice a1 len1 cap1] w fun e w' => e = .returned (.bool true) ∧ Below w.heap.size w w' := by
  obtain ⟨cb, hc, hi⟩ := code_in h0
  exact ((law a0 len0 cap0 a1 len1 cap1 cb hc).run w hi).mono fun e w' ⟨v, h', he, hy, hi', hf⟩ => yes_below hi hi' hf he hy
set_option maxRecDepth 100000 in
theorem lifted (os : Os) (started : os.Started) (H : Type) (enc : TypeId × Value → H) :
    ReturnsInHanded {} Try.checked os 7 .any (Rows.fnPutTwoSpec.pre6 enc Try.prog Try.f7 Rows.fnPutTwoRow.domain false) (Rows.fnPutTwoSpec.post enc Try.prog Try.f7 false true false false) := by
  refine returnsInHanded_of_change (C := Try.checked) own started (by kernel_rfl) Try.func7
    (ChangeSpec.witness6 (enc := enc) (C := Try.checked) false ⟨#[], #[.slice none 0 0, .slice none 0 0], []⟩ 8 (by kernel_rfl) (by kernel_rfl) (by kernel_rfl) (by kernel_rfl)) ?_
  intro W base args ds gs before hval0 hW hcnd _
  have hval : ∀ (j : Nat) t v, Try.f7.params[j]? = some t → args[j]? = some v → Value.okWide Try.prog W .any base t v := hval0
  have hW' := hW
  obtain ⟨p, q, hA0, hV, rfl, hfz, hnd⟩ := hW
  have hA : DataW.TrodAll enc Try.prog W 0 (fun _ => true) true Try.f7.params.toList args.toList ds p := hA0
  rw [Try.params7] at hA hval
  obtain ⟨v0, vs0, d0, ds0, p0, q0, hargs, rfl, rfl, h0, r0⟩ := trodAll_cons hA
  obtain ⟨v1, vs1, d1, ds1, p1, q1, rfl, rfl, rfl, h1, r1⟩ := trodAll_cons r0
  obtain ⟨rfl, rfl, rfl⟩ := trodAll_nil r1
  obtain rfl : args = #[v0, v1] := by cases args; simp_all
  obtain ⟨rfl, rfl⟩ := trodVars_none hV
  obtain ⟨a0, len0, cap0, rfl⟩ := okWide_slice Try.underlying22 (hval 0 22 v0 rfl rfl)
  have k0 := h0
  have lt0 : ∀ x ∈ p0, x.block < W.heap.size := by obtain ⟨m, hm⟩ := k0; exact DataW.trod_lt m _ _ _ hm
  obtain ⟨a1, len1, cap1, rfl⟩ := okWide_slice Try.underlying22 (hval 1 22 v1 rfl rfl)
  have k1 := h1
  have lt1 : ∀ x ∈ p1, x.block < W.heap.size := by obtain ⟨m, hm⟩ := k1; exact DataW.trod_lt m _ _ _ hm
  have w0 : Eld.Code0 W a0 len0 cap0 := by
    obtain ⟨fuel, hf⟩ := h0
    rcases open_ints Try.underlying22 Try.underlying5 (by kernel_rfl) hf with ⟨hcs, _⟩ | ⟨x, l, c, zs, hcs, _, hl, hm, hz, _, hcell, hwz⟩
    · simp [Value.cells] at hcs
      obtain ⟨rfl, rfl, rfl⟩ := hcs
      exact Eld.code_of_row (zs := []) (.inl ⟨rfl, rfl, rfl, rfl⟩)
    · simp [Value.cells] at hcs
      obtain ⟨rfl, rfl, rfl⟩ := hcs
      exact Eld.code_of_row (zs := zs) (.inr ⟨_, rfl, hl, hm, by simpa using hz, hcell, hwz⟩)
  clear hA0 hval0
  refine (walk a0 len0 cap0 a1 len1 cap1 W w0).mono fun e W' ⟨he, bel⟩ => ?_
  subst he
  exact ⟨_, rfl, _, _, _, [], _, [], hW', trodAll_mk1 (shut_bool Try.underlying4 _), (trodAll_cons_mk (Below.trod laidOut (by kernel_rfl) (of_decide_eq_true (by kernel_rfl)) k0 bel lt0) (trodAll_cons_mk (Below.trod laidOut (by kernel_rfl) (of_decide_eq_true (by kernel_rfl)) k1 bel lt1) trodAll_mk0)), rfl, bel.frame _, fun h => by cases h⟩
theorem over : Rows.fnPutTwoRow.holds Try.pinned (OpenSpec.ofChange Rows.fnPutTwoSpec) :=
  OpenClaim.holds_of_wide 7 Try.f7 rfl rfl rfl rfl rfl rfl rfl ⟨rfl, rfl, rfl, rfl, rfl⟩ rfl rfl rfl rfl rfl (by kernel_rfl) Try.func7 (by kernel_rfl)
    (of_decide_eq_true (by kernel_rfl)) (by unfold Func.isWrapper; first | (rw [if_pos (by decide +kernel)]; kernel_rfl) | (rw [if_neg (by decide +kernel)]; exact ⟨rfl, rfl⟩))
    (fun os started H enc _ => lifted os started H enc)
end FnPutTwo
/-- the given statement -/
theorem fnPutTwo_holds : Rows.FnPutTwoSaid := FnPutTwo.over
#print axioms fnPutTwo_holds
end Go.Proofs.Ytklgpkkghhaccaa
