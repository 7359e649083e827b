/-
  The lines of steps, apart from any program: a text cut at its line ends, and which texts are those of ok steps. No condition.
-/
import Derived.Test.YtekmjgkjpdhedaaGreatDoorOpPieces
import Derived.Test.YtekmjgkjpdhedaaGreatDoorCutAt
import Derived.Test.YtekmjgkjpdhedaaGreatDoorCodeAt
namespace Go.Proofs.YtekmjgkjpdhedaaGreatDoor
def OpV.txt (o : OpV) : List UInt8 := opTxt o.k o.r o.s o.t o.a o.b
/-- the lines of steps -/
def linesOf (C : List OpV) : List UInt8 := C.flatMap fun o => o.txt ++ [10]
def codeTxt (C : List OpV) : List UInt8 := if codeB C = true then linesOf C else []
theorem lines_take (C : List OpV) (k : Nat) (h : k < C.length) : linesOf (C.take (k + 1)) = linesOf (C.take k) ++ (C[k].txt ++ [10]) := by
  unfold linesOf
  rw [List.take_add_one, List.getElem?_eq_getElem h, List.flatMap_append]; simp
theorem lines_len (C : List OpV) (hC : codeB C = true) : ∀ k, k ≤ C.length → (linesOf (C.take k)).length ≤ 23 * k
  | 0, _ => by simp [linesOf]
  | k + 1, h => by
    have ih := lines_len C hC k (by omega)
    have hk : k < C.length := by omega
    have := opTxt_len ((codeB_well hC).2.2 k hk)
    rw [lines_take C k hk]
    simp [OpV.txt] at this ⊢
    omega
/-- lines, joined -/
def joinT (ls : List (List UInt8)) : List UInt8 := ls.dropLast.flatMap (· ++ [10]) ++ ls.getLastD []
theorem joinT_snoc (A : List (List UInt8)) (z : List UInt8) : joinT (A ++ [z]) = A.flatMap (· ++ [10]) ++ z := by simp [joinT]
theorem snoc_of {ls : List (List UInt8)} (h : ls ≠ []) : ∃ A z, ls = A ++ [z] := ⟨_, _, (List.dropLast_concat_getLast h).symm⟩
theorem joinT_step (ls : List (List UInt8)) (h : ls ≠ []) (c : UInt8) : joinT (cutStepAt 10 ls c) = joinT ls ++ [c] := by
  obtain ⟨A, z, rfl⟩ := snoc_of h
  unfold cutStepAt
  split
  · rename_i e; subst e
    rw [joinT_snoc, joinT_snoc]; simp
  · have e1 : (A ++ [z]).dropLast = A := by simp
    have e2 : (A ++ [z]).getLastD [] = z := by simp
    rw [e1, e2, joinT_snoc, joinT_snoc]; simp
theorem joinT_cuts (x : List UInt8) : joinT (cutsAt 10 x) = x := by
  have key : ∀ (t : List UInt8) (ls : List (List UInt8)), ls ≠ [] → joinT (t.foldl (cutStepAt 10) ls) = joinT ls ++ t := by
    intro t
    induction t with
    | nil => intro ls _; simp
    | cons c t ih => intro ls h; rw [List.foldl_cons, ih _ (cutStepAt_some 10 ls c), joinT_step ls h]; simp
  have := key x [[]] (by simp)
  simpa [cutsAt, joinT] using this
theorem fold_line (t : List UInt8) : ∀ (P : List (List UInt8)) (q : List UInt8), (∀ c ∈ t, c ≠ 10) → t.foldl (cutStepAt 10) (P ++ [q]) = P ++ [q ++ t] := by
  induction t with
  | nil => intro P q _; simp
  | cons c t ih =>
    intro P q h
    have hc : c ≠ 10 := h c (by simp)
    have e : cutStepAt 10 (P ++ [q]) c = P ++ [q ++ [c]] := by unfold cutStepAt; rw [if_neg hc]; simp
    rw [List.foldl_cons, e, ih P (q ++ [c]) (fun d hd => h d (by simp [hd]))]; simp
theorem fold_lines : ∀ (A P : List (List UInt8)), (∀ l ∈ A, ∀ c ∈ l, c ≠ 10) → (A.flatMap (· ++ [10])).foldl (cutStepAt 10) (P ++ [[]]) = P ++ A ++ [[]]
  | [], P, _ => by simp
  | l :: A, P, h => by
    have e : cutStepAt 10 (P ++ [l]) 10 = (P ++ [l]) ++ [[]] := by unfold cutStepAt; rw [if_pos rfl]
    rw [List.flatMap_cons, List.foldl_append, List.foldl_append, fold_line l P [] (h l (by simp)), List.nil_append, List.foldl_cons, List.foldl_nil, e, fold_lines A (P ++ [l]) (fun m hm => h m (by simp [hm]))]
    simp
theorem cuts_lines (A : List (List UInt8)) (h : ∀ l ∈ A, ∀ c ∈ l, c ≠ 10) : cutsAt 10 (A.flatMap (· ++ [10])) = A ++ [[]] := by
  have := fold_lines A [] h
  simpa [cutsAt] using this
/-- no line end in it -/
def NoL (a : List UInt8) : Prop := ∀ x ∈ a, x ≠ 10
theorem NoL.app {a b : List UInt8} (h : NoL a) (k : NoL b) : NoL (a ++ b) := fun x hx => by
  rcases List.mem_append.1 hx with hx | hx
  · exact h x hx
  · exact k x hx
theorem NoL.part (b : Bool) {a : List UInt8} (h : NoL a) : NoL (part b a) := by
  cases b with
  | false => intro x hx; simp [Go.Proofs.YtekmjgkjpdhedaaGreatDoor.part] at hx
  | true =>
    intro x hx
    simp [Go.Proofs.YtekmjgkjpdhedaaGreatDoor.part] at hx
    rcases hx with rfl | hx
    · decide
    · exact h x hx
theorem figL : ∀ u : Nat, u < 10 → UInt8.ofNat (48 + u) ≠ 10 := by decide
theorem nol_dec (u : Nat) (h : u < 100) : NoL (Lib.decDigits u) := by
  intro x hx
  by_cases h1 : u < 10
  · rw [dec_lt10 u h1] at hx; rw [List.mem_singleton.1 hx]; exact figL u h1
  · rw [dec_lt100 u (by omega) h] at hx
    rcases List.mem_cons.1 hx with rfl | hx
    · exact figL _ (by omega)
    · rw [List.mem_singleton.1 hx]; exact figL _ (by omega)
theorem nol_itoa (n : Int) (h1 : -99 ≤ n) (h2 : n ≤ 99) : NoL (Lib.itoa n) := by
  by_cases h : n < 0
  · rw [itoa_neg n h, itoa_pos (-n) (by omega)]
    intro x hx
    rcases List.mem_cons.1 hx with rfl | hx
    · decide
    · exact nol_dec _ (by omega) x hx
  · rw [itoa_pos n (by omega)]; exact nol_dec _ (by omega)
theorem nol_txt {k n : Int} (h : okB k n = true) : NoL (txt k n) := by
  have b := okB_bd h
  have c := nol_itoa n b.1 b.2
  rcases okB_kinds h with rfl | rfl | rfl | rfl
  · rw [txt_none h]; intro x hx; simp at hx; rcases hx with rfl | rfl | rfl | rfl <;> decide
  · rw [txt_num h]; intro x hx; rcases List.mem_cons.1 hx with rfl | hx; decide; exact c x hx
  · rw [txt_name h]; intro x hx; rcases List.mem_cons.1 hx with rfl | hx; decide; exact c x hx
  · rw [txt_run h]; intro x hx; rcases List.mem_cons.1 hx with rfl | hx; decide; exact c x hx
theorem words_nol : ∀ i : Nat, i < 15 → ∀ x ∈ wordL.getD i [], x ≠ 10 := by decide
theorem nol_op {k r s t a b : Int} (h : opB k r s t a b = true) : NoL (opTxt k r s t a b) := by
  have o := opIs_of h
  have br := o.r1; have br2 := o.r2; have bs := o.s1; have bs2 := o.s2; have bt := o.t1; have bt2 := o.t2; have bk := o.k1; have bk2 := o.k2
  rw [opTxt_ok h, opTail]
  exact NoL.app (words_nol k.toNat (by omega)) (NoL.app (NoL.part _ (nol_itoa r (by omega) (by omega))) (NoL.app (NoL.part _ (nol_itoa s (by omega) (by omega))) (NoL.app (NoL.part _ (nol_itoa t (by omega) (by omega))) (NoL.part _ (nol_txt o.v)))))
/-- the lines of ok steps, cut -/
theorem cuts_code {C : List OpV} (h : codeB C = true) : cutsAt 10 (linesOf C) = C.map OpV.txt ++ [[]] := by
  have hw := (codeB_well h).2.2
  have e : linesOf C = (C.map OpV.txt).flatMap (· ++ [10]) := by unfold linesOf; rw [List.flatMap_map]
  rw [e]
  refine cuts_lines _ (fun l hl => ?_)
  obtain ⟨o, ho, rfl⟩ := List.mem_map.1 hl
  obtain ⟨i, hi, rfl⟩ := List.getElem_of_mem ho
  exact nol_op (hw i hi)
theorem lines_code_len {C : List OpV} (h : codeB C = true) : (linesOf C).length ≤ 368 := by
  have := lines_len C h C.length (Nat.le_refl _)
  rw [List.take_length] at this
  have := (codeB_well h).2.1
  omega
/-- what reading steps answers: the ok steps whose text it is, or none where it is no ok steps' -/
def ReadCode (x : List UInt8) (C : List OpV) (ok : Bool) : Prop :=
  (ok = true ∧ codeB C = true ∧ x = linesOf C) ∨ (ok = false ∧ C = [] ∧ ∀ D, codeB D = true → x ≠ linesOf D)
/-- the first k lines are read: O -/
def LinesTo (x : List UInt8) (k : Nat) (O : List OpV) : Prop :=
  O.length = k ∧ ∀ i (h : i < O.length), O[i].ok = true ∧ (cutsAt 10 x)[i]? = some O[i].txt
theorem LinesTo.zero (x : List UInt8) : LinesTo x 0 [] := ⟨rfl, fun i h => by simp at h⟩
theorem LinesTo.next {x : List UInt8} {k : Nat} {O : List OpV} (h : LinesTo x k O) {o : OpV} (ho : o.ok = true) (hl : (cutsAt 10 x)[k]? = some o.txt) : LinesTo x (k + 1) (O ++ [o]) := by
  refine ⟨by simp [h.1], fun i hi => ?_⟩
  by_cases e : i < O.length
  · rw [List.getElem_append_left e]; exact h.2 i e
  · have : i = O.length := by simp at hi; omega
    subst this
    rw [List.getElem_append_right (Nat.le_refl _)]
    simp [ho]
    rw [h.1]; exact hl
/-- a text with a line that is no step's is no ok steps' -/
theorem read_no_line {x : List UInt8} {k : Nat} {l : List UInt8} (hk : k + 1 < (cutsAt 10 x).length) (hl : (cutsAt 10 x)[k]? = some l) (hn : ∀ k r s t a b, opB k r s t a b = true → l ≠ opTxt k r s t a b) : ReadCode x [] false := by
  refine .inr ⟨rfl, rfl, fun D hD e => ?_⟩
  rw [e, cuts_code hD] at hk hl
  have hk2 : k < D.length := by simp at hk; omega
  rw [List.getElem?_append_left (by simpa using hk2), List.getElem?_map, List.getElem?_eq_getElem hk2] at hl
  simp at hl
  have := (codeB_well hD).2.2 k hk2
  exact hn _ _ _ _ _ _ this hl.symm
/-- a text with no line, or with something behind the last one -/
theorem read_no_end {x : List UInt8} (h : (cutsAt 10 x).length ≤ 1 ∨ (cutsAt 10 x).getLastD [] ≠ []) : ReadCode x [] false := by
  refine .inr ⟨rfl, rfl, fun D hD e => ?_⟩
  rw [e, cuts_code hD] at h
  have := (codeB_well hD).1.1
  rcases h with h | h
  · rw [List.length_append, List.length_map, List.length_singleton] at h; omega
  · simp at h
theorem read_long {x : List UInt8} (h : 400 < x.length) : ReadCode x [] false := by
  refine .inr ⟨rfl, rfl, fun D hD e => ?_⟩
  have := lines_code_len hD
  rw [← e] at this; omega
/-- all lines were read -/
theorem lines_all {x : List UInt8} {O : List OpV} (h : LinesTo x O.length O) (hn : (cutsAt 10 x).length = O.length + 1) (hz : (cutsAt 10 x).getLastD [] = []) : x = linesOf O := by
  have hc : cutsAt 10 x = O.map OpV.txt ++ [[]] := by
    apply List.ext_getElem?
    intro i
    by_cases hi : i < O.length
    · rw [(h.2 i hi).2, List.getElem?_append_left (by simpa using hi), List.getElem?_map, List.getElem?_eq_getElem hi]; rfl
    · by_cases hi2 : i = O.length
      · subst hi2
        rw [List.getElem?_append_right (by simp)]
        simp
        have e : (cutsAt 10 x).getLastD [] = [] := hz
        rw [List.getLastD_eq_getLast?, List.getLast?_eq_getElem?, hn] at e
        simp only [Nat.add_sub_cancel] at e
        cases hq : (cutsAt 10 x)[O.length]? with
        | none => rw [List.getElem?_eq_none_iff] at hq; omega
        | some q => rw [hq] at e; simp at e; rw [e]
      · rw [List.getElem?_eq_none (by omega), List.getElem?_eq_none (by simp; omega)]
  have := joinT_cuts x
  rw [hc, joinT_snoc] at this
  rw [← this]
  unfold linesOf
  rw [List.flatMap_map]; simp
theorem read_all {x : List UInt8} {O : List OpV} (h : LinesTo x O.length O) (hn : (cutsAt 10 x).length = O.length + 1) (hz : (cutsAt 10 x).getLastD [] = []) :
    (codeB O = true → ReadCode x O true) ∧ (codeB O = false → ReadCode x [] false) := by
  have hx := lines_all h hn hz
  refine ⟨fun hb => .inl ⟨rfl, hb, hx⟩, fun hb => .inr ⟨rfl, rfl, fun D hD e => ?_⟩⟩
  have hlen : D.length = O.length := by
    rw [e, cuts_code hD] at hn; simpa using hn
  have : D = O := by
    apply List.ext_getElem hlen
    intro i h1 h2
    obtain ⟨k1, k2⟩ := h.2 i h2
    rw [e, cuts_code hD, List.getElem?_append_left (by simpa using h1), List.getElem?_map, List.getElem?_eq_getElem h1] at k2
    simp at k2
    have d1 := (codeB_well hD).2.2 i h1
    obtain ⟨e1, e2, e3, e4, e5, e6⟩ := opTxt_inj (h1 := d1) (h2 := k1) k2
    generalize D[i] = y at *
    generalize O[i] = z at *
    cases y; cases z; simp at *; exact ⟨e1, e2, e3, e4, e5, e6⟩
  rw [this, hb] at hD; cases hD
/-- of ok steps' text just these -/
theorem ReadCode.of_code {x : List UInt8} {C D : List OpV} {ok : Bool} (h : ReadCode x C ok) (hD : codeB D = true) (e : x = linesOf D) : ok = true ∧ C = D := by
  rcases h with ⟨h1, h2, h3⟩ | ⟨_, _, h3⟩
  · refine ⟨h1, ?_⟩
    have hc : C.map OpV.txt ++ [[]] = D.map OpV.txt ++ [[]] := by rw [← cuts_code h2, ← cuts_code hD, ← h3, e]
    have hm : C.map OpV.txt = D.map OpV.txt := (List.append_inj' hc rfl).1
    have hlen : C.length = D.length := by simpa using congrArg List.length hm
    apply List.ext_getElem hlen
    intro i i1 i2
    have k2 : C[i].txt = D[i].txt := by
      have := congrArg (fun l => l[i]?) hm
      simpa [List.getElem?_map, List.getElem?_eq_getElem i1, List.getElem?_eq_getElem i2] using this
    obtain ⟨e1, e2, e3, e4, e5, e6⟩ := opTxt_inj (h1 := (codeB_well h2).2.2 i i1) (h2 := (codeB_well hD).2.2 i i2) k2
    generalize C[i] = y at *
    generalize D[i] = z at *
    cases y; cases z; simp at *; exact ⟨e1, e2, e3, e4, e5, e6⟩
  · exact absurd e (h3 D hD)
end Go.Proofs.YtekmjgkjpdhedaaGreatDoor
