/-
  Steps, apart from any program: which are ok, what their texts are, that two ok steps with one text are one step, and how a text begins and ends. No condition.
-/
import Derived.Test.YtekmjgkjpdhedaaGreatDoorCutText
import Derived.Test.YtekmjgkjpdhedaaGreatDoorOpB
namespace Go.Proofs.YtekmjgkjpdhedaaGreatDoor
/-- the words -/
def wordL : List (List UInt8) :=
  [[], [115, 101, 116], [109, 111, 118, 101], [97, 100, 100], [115, 101, 108, 102], [98, 101, 103, 105, 110], [115, 101, 110, 100], [116, 97, 107, 101], [97, 102, 116, 101, 114], [103, 111], [105, 102], [108, 105, 110, 107], [119, 97, 116, 99, 104], [116, 114, 97, 112], [101, 110, 100]]
def word (k : Int) : List UInt8 := wordL.getD k.toNat []
/-- a part of a text: with a blank ahead, or none -/
def part (b : Bool) (x : List UInt8) : List UInt8 := if b = true then 32 :: x else []
def opTail (k r s t vk vn : Int) : List UInt8 := part (fR k) (Lib.itoa r) ++ (part (fS k) (Lib.itoa s) ++ (part (fT k) (Lib.itoa t) ++ part (fV k) (txt vk vn)))
/-- a step's text -/
def opTxt (k r s t vk vn : Int) : List UInt8 := if opB k r s t vk vn = true then word k ++ opTail k r s t vk vn else []
theorem opTxt_bad {k r s t vk vn : Int} (h : opB k r s t vk vn = false) : opTxt k r s t vk vn = [] := by rw [opTxt, if_neg (by rw [h]; decide)]
theorem opTxt_ok {k r s t vk vn : Int} (h : opB k r s t vk vn = true) : opTxt k r s t vk vn = word k ++ opTail k r s t vk vn := by rw [opTxt, if_pos h]
/-- no blank in it -/
def NoB (a : List UInt8) : Prop := ∀ x ∈ a, x ≠ 32
/-- empty, or with a blank ahead -/
def Tail (a : List UInt8) : Prop := a = [] ∨ ∃ r, a = 32 :: r
theorem tail_part (b : Bool) (x y : List UInt8) (h : Tail y) : Tail (part b x ++ y) := by
  cases b with
  | false => simpa [part] using h
  | true => exact .inr ⟨x ++ y, by simp [part]⟩
theorem tail_part0 (b : Bool) (x : List UInt8) : Tail (part b x) := by simpa using tail_part b x [] (.inl rfl)
theorem split_eq : ∀ {a b x y : List UInt8}, NoB a → NoB b → Tail x → Tail y → a ++ x = b ++ y → a = b ∧ x = y
  | [], [], _, _, _, _, _, _, h => ⟨rfl, h⟩
  | [], c :: b, x, y, _, hb, hx, _, h => by
    rcases hx with rfl | ⟨r, rfl⟩
    · simp at h
    · have e : (32 : UInt8) = c := by simpa using (List.cons.inj h).1
      exact absurd e.symm (hb c (by simp))
  | c :: a, [], x, y, ha, _, _, hy, h => by
    rcases hy with rfl | ⟨r, rfl⟩
    · simp at h
    · have e : c = (32 : UInt8) := by simpa using (List.cons.inj h).1
      exact absurd e (ha c (by simp))
  | c :: a, d :: b, x, y, ha, hb, hx, hy, h => by
    obtain ⟨e1, e2⟩ := List.cons.inj h
    obtain ⟨e3, e4⟩ := split_eq (fun z hz => ha z (by simp [hz])) (fun z hz => hb z (by simp [hz])) hx hy e2
    exact ⟨by rw [e1, e3], e4⟩
theorem part_eq {f : Bool} {u v x y : List UInt8} (hu : NoB u) (hv : NoB v) (hx : Tail x) (hy : Tail y) (h : part f u ++ x = part f v ++ y) : (f = true → u = v) ∧ x = y := by
  cases f with
  | false => exact ⟨fun e => (by cases e), (by simpa [part] using h)⟩
  | true =>
    have h' : u ++ x = v ++ y := by simpa [part] using h
    obtain ⟨e1, e2⟩ := split_eq hu hv hx hy h'
    exact ⟨fun _ => e1, e2⟩
theorem figB : ∀ u : Nat, u < 10 → UInt8.ofNat (48 + u) ≠ 32 := by decide
theorem nob_dec (u : Nat) (h : u < 100) : NoB (Lib.decDigits u) := by
  intro x hx
  by_cases h1 : u < 10
  · rw [dec_lt10 u h1] at hx; rw [List.mem_singleton.1 hx]; exact figB u h1
  · rw [dec_lt100 u (by omega) h] at hx
    rcases List.mem_cons.1 hx with rfl | hx
    · exact figB _ (by omega)
    · rw [List.mem_singleton.1 hx]; exact figB _ (by omega)
theorem nob_itoa (n : Int) (h1 : -99 ≤ n) (h2 : n ≤ 99) : NoB (Lib.itoa n) := by
  by_cases h : n < 0
  · rw [itoa_neg n h, itoa_pos (-n) (by omega)]
    intro x hx
    rcases List.mem_cons.1 hx with rfl | hx
    · decide
    · exact nob_dec _ (by omega) x hx
  · rw [itoa_pos n (by omega)]; exact nob_dec _ (by omega)
theorem nob_txt {k n : Int} (h : okB k n = true) : NoB (txt k n) := by
  have b := okB_bd h
  have c := nob_itoa n b.1 b.2
  rcases okB_kinds h with rfl | rfl | rfl | rfl
  · rw [txt_none h]; intro x hx; simp at hx; rcases hx with rfl | rfl | rfl | rfl <;> decide
  · rw [txt_num h]; intro x hx; rcases List.mem_cons.1 hx with rfl | hx; decide; exact c x hx
  · rw [txt_name h]; intro x hx; rcases List.mem_cons.1 hx with rfl | hx; decide; exact c x hx
  · rw [txt_run h]; intro x hx; rcases List.mem_cons.1 hx with rfl | hx; decide; exact c x hx
theorem words_nob : ∀ i : Nat, i < 15 → ∀ x ∈ wordL.getD i [], x ≠ 32 := by decide
theorem words_inj : ∀ i : Nat, i < 15 → ∀ j : Nat, j < 15 → wordL.getD i [] = wordL.getD j [] → i = j := by decide
theorem words_some : ∀ i : Nat, i < 15 → 1 ≤ i → wordL.getD i [] ≠ [] := by decide
theorem words_len : ∀ i : Nat, i < 15 → (wordL.getD i []).length ≤ 5 := by decide
theorem nob_word {k : Int} (h1 : 1 ≤ k) (h2 : k ≤ 14) : NoB (word k) := words_nob _ (by omega)
theorem word_inj {k l : Int} (h1 : 1 ≤ k) (h2 : k ≤ 14) (h3 : 1 ≤ l) (h4 : l ≤ 14) (h : word k = word l) : k = l := by
  have := words_inj k.toNat (by omega) l.toNat (by omega) h; omega
theorem word_some {k : Int} (h1 : 1 ≤ k) (h2 : k ≤ 14) : word k ≠ [] := words_some _ (by omega) (by omega)
theorem tail_op (k r s t vk vn : Int) : Tail (opTail k r s t vk vn) := tail_part _ _ _ (tail_part _ _ _ (tail_part _ _ _ (tail_part0 _ _)))
theorem opTxt_some {k r s t vk vn : Int} (h : opB k r s t vk vn = true) : opTxt k r s t vk vn ≠ [] := by
  have o := opIs_of h
  rw [opTxt_ok h]; exact fun e => word_some o.k1 o.k2 (List.append_eq_nil_iff.1 e).1
/-- two ok steps with one text are one -/
theorem opTxt_inj {k r s t vk vn l r' s' t' wk wn : Int} (h1 : opB k r s t vk vn = true) (h2 : opB l r' s' t' wk wn = true) (h : opTxt k r s t vk vn = opTxt l r' s' t' wk wn) :
    k = l ∧ r = r' ∧ s = s' ∧ t = t' ∧ vk = wk ∧ vn = wn := by
  have o := opIs_of h1
  have p := opIs_of h2
  rw [opTxt_ok h1, opTxt_ok h2] at h
  obtain ⟨e1, e2⟩ := split_eq (nob_word o.k1 o.k2) (nob_word p.k1 p.k2) (tail_op _ _ _ _ _ _) (tail_op _ _ _ _ _ _) h
  obtain rfl := word_inj o.k1 o.k2 p.k1 p.k2 e1
  have br := o.r1; have br2 := o.r2; have bs := o.s1; have bs2 := o.s2; have bt := o.t1; have bt2 := o.t2
  have cr := p.r1; have cr2 := p.r2; have cs := p.s1; have cs2 := p.s2; have ct := p.t1; have ct2 := p.t2
  obtain ⟨q1, e3⟩ := part_eq (nob_itoa r (by omega) (by omega)) (nob_itoa r' (by omega) (by omega)) (tail_part _ _ _ (tail_part _ _ _ (tail_part0 _ _))) (tail_part _ _ _ (tail_part _ _ _ (tail_part0 _ _))) e2
  obtain ⟨q2, e4⟩ := part_eq (nob_itoa s (by omega) (by omega)) (nob_itoa s' (by omega) (by omega)) (tail_part _ _ _ (tail_part0 _ _)) (tail_part _ _ _ (tail_part0 _ _)) e3
  obtain ⟨q3, e5⟩ := part_eq (nob_itoa t (by omega) (by omega)) (nob_itoa t' (by omega) (by omega)) (tail_part0 _ _) (tail_part0 _ _) e4
  obtain ⟨q4, _⟩ := part_eq (x := []) (y := []) (nob_txt o.v) (nob_txt p.v) (.inl rfl) (.inl rfl) (by simpa using e5)
  refine ⟨rfl, ?_, ?_, ?_, ?_⟩
  · cases hf : fR k with
    | true => exact itoa_inj (by omega) (by omega) (by omega) (by omega) (q1 hf)
    | false => rw [o.rN hf, p.rN hf]
  · cases hf : fS k with
    | true => exact itoa_inj (by omega) (by omega) (by omega) (by omega) (q2 hf)
    | false => rw [o.sN hf, p.sN hf]
  · cases hf : fT k with
    | true => exact itoa_inj (by omega) (by omega) (by omega) (by omega) (q3 hf)
    | false => rw [o.tN hf, p.tN hf]
  · cases hf : fV k with
    | true => exact txt_inj o.v p.v (q4 hf)
    | false => exact ⟨(o.vN hf).1.trans (p.vN hf).1.symm, (o.vN hf).2.trans (p.vN hf).2.symm⟩
/-- no text begins with a blank -/
theorem opTxt_first {k r s t vk vn : Int} (h : opB k r s t vk vn = true) (x : List UInt8) : 32 :: x ≠ opTxt k r s t vk vn := by
  have o := opIs_of h
  rw [opTxt_ok h]
  intro e
  have hn := nob_word o.k1 o.k2
  cases hw : word k with
  | nil => exact word_some o.k1 o.k2 hw
  | cons c l =>
    rw [hw] at e hn
    have : (32 : UInt8) = c := by simpa using (List.cons.inj e).1
    exact hn c (by simp) this.symm
/-- it is not empty, and its last byte is no blank -/
def EndsB (a : List UInt8) : Prop := a ≠ [] ∧ ∀ x, a ≠ x ++ [32]
theorem endsB_nob {a : List UInt8} (h : a ≠ []) (hn : NoB a) : EndsB a := ⟨h, fun x e => hn 32 (by rw [e]; simp) rfl⟩
theorem endsB_app {a b : List UInt8} (h : EndsB b) : EndsB (a ++ b) := by
  refine ⟨fun e => h.1 (List.append_eq_nil_iff.1 e).2, fun x e => ?_⟩
  obtain ⟨y, c, rfl⟩ : ∃ y c, b = y ++ [c] := ⟨_, _, (List.dropLast_concat_getLast h.1).symm⟩
  rw [← List.append_assoc] at e
  have := (List.append_inj' e rfl).2
  simp at this
  subst this
  exact h.2 y rfl
theorem endsB_part {a : List UInt8} (b : Bool) {u : List UInt8} (ha : EndsB a) (hu : u ≠ []) (hn : NoB u) : EndsB (a ++ part b u) := by
  cases b with
  | false => simpa [part] using ha
  | true => rw [show part true u = [32] ++ u from rfl]; exact endsB_app (endsB_app (endsB_nob hu hn))
theorem itoa_some (n : Int) (h1 : -99 ≤ n) (h2 : n ≤ 99) : Lib.itoa n ≠ [] := by
  by_cases h : n < 0
  · rw [itoa_neg n h]; simp
  · rw [itoa_pos n (by omega)]
    by_cases h3 : n.toNat < 10
    · rw [dec_lt10 _ h3]; simp
    · rw [dec_lt100 _ (by omega) (by omega)]; simp
theorem opTxt_last {k r s t vk vn : Int} (h : opB k r s t vk vn = true) (x : List UInt8) : x ++ [32] ≠ opTxt k r s t vk vn := by
  have o := opIs_of h
  have br := o.r1; have br2 := o.r2; have bs := o.s1; have bs2 := o.s2; have bt := o.t1; have bt2 := o.t2
  have e : EndsB (opTxt k r s t vk vn) := by
    rw [opTxt_ok h, opTail, ← List.append_assoc, ← List.append_assoc, ← List.append_assoc]
    exact endsB_part _ (endsB_part _ (endsB_part _ (endsB_part _ (endsB_nob (word_some o.k1 o.k2) (nob_word o.k1 o.k2)) (itoa_some r (by omega) (by omega)) (nob_itoa r (by omega) (by omega)))
      (itoa_some s (by omega) (by omega)) (nob_itoa s (by omega) (by omega))) (itoa_some t (by omega) (by omega)) (nob_itoa t (by omega) (by omega))) (txt_some o.v) (nob_txt o.v)
  exact fun hh => e.2 x hh.symm
theorem part_len (b : Bool) (u : List UInt8) (m : Nat) (h : u.length ≤ m) : (part b u).length ≤ m + 1 := by
  cases b <;> simp [part] <;> omega
theorem opTxt_len {k r s t vk vn : Int} (h : opB k r s t vk vn = true) : (opTxt k r s t vk vn).length ≤ 22 := by
  have o := opIs_of h
  have br := o.r1; have br2 := o.r2; have bs := o.s1; have bs2 := o.s2; have bt := o.t1; have bt2 := o.t2; have bk := o.k1; have bk2 := o.k2
  have w := words_len k.toNat (by omega)
  have l1 := part_len (fR k) _ 3 (itoa_len r (by omega) (by omega))
  have l2 := part_len (fS k) _ 3 (itoa_len s (by omega) (by omega))
  have l3 := part_len (fT k) _ 3 (itoa_len t (by omega) (by omega))
  have l4 := part_len (fV k) _ 4 (txt_len o.v)
  rw [opTxt_ok h, opTail]
  simp only [List.length_append]
  unfold word
  omega
theorem opTxt_drop {k r s t vk vn : Int} (h : opB k r s t vk vn = true) : (opTxt k r s t vk vn).dropLast ≠ opTxt k r s t vk vn := by
  intro e
  have := congrArg List.length e
  rw [List.length_dropLast] at this
  have := List.length_pos_iff.2 (opTxt_some h)
  omega
end Go.Proofs.YtekmjgkjpdhedaaGreatDoor
