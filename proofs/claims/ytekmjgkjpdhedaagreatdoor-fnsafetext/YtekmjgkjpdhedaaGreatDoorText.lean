/-
  The texts of values over this translation: what impl.ValText and the specification's ValText answer, for every value.
-/
import Derived.Test.YtekmjgkjpdhedaaGreatDoorShelf
import Derived.Deep.RegionHeld3
import Derived.Deep.DrawnRows
import Derived.Laws.BytesArg
namespace Go.Proofs.YtekmjgkjpdhedaaGreatDoor
open Go.ChangeShapes Go.WideShapes Go.ChangeAt Go.RowKit Go.Joins
attribute [local go_sem ↓] Go.wp_at_zero Go.wp_at_succ
theorem dec_lt10 (u : Nat) (h : u < 10) : Lib.decDigits u = [UInt8.ofNat (48 + u)] := by rw [Lib.decDigits, dif_pos h]
theorem dec_lt100 (u : Nat) (h : 10 ≤ u) (h' : u < 100) : Lib.decDigits u = [UInt8.ofNat (48 + u / 10), UInt8.ofNat (48 + u % 10)] := by
  rw [Lib.decDigits, dif_neg (by omega), dec_lt10 (u / 10) (by omega)]; rfl
theorem dec_len (u : Nat) (h : u < 100) : (Lib.decDigits u).length ≤ 2 := by
  by_cases h1 : u < 10
  · rw [dec_lt10 u h1]; simp
  · rw [dec_lt100 u (by omega) h]; simp
theorem itoa_pos (n : Int) (h : 0 ≤ n) : Lib.itoa n = Lib.decDigits n.toNat := by rw [Lib.itoa, if_neg (by omega)]
theorem itoa_neg (n : Int) (h : n < 0) : Lib.itoa n = 45 :: Lib.itoa (-n) := by rw [Lib.itoa, if_pos h, itoa_pos (-n) (by omega)]; congr 2; omega
theorem itoa_len (n : Int) (h1 : -99 ≤ n) (h2 : n ≤ 99) : (Lib.itoa n).length ≤ 3 := by
  by_cases h : n < 0
  · rw [itoa_neg n h, itoa_pos (-n) (by omega), List.length_cons]; have := dec_len (-n).toNat (by omega); omega
  · rw [itoa_pos n (by omega)]; have := dec_len n.toNat (by omega); omega
theorem cat (a b : List UInt8) : (⟨a.toArray⟩ : ByteArray) ++ ⟨b.toArray⟩ = ⟨(a ++ b).toArray⟩ := by
  apply ByteArray.ext; simp
theorem count_num (n : Int) (w : World) :
    Calls Tryz.prog 126 #[.int .i64 n] w fun e w' => e = .returned (.int .i64 n) ∧ w' = w := by
  go_enter Tryz.func126, Tryz.ntmps126
  go_wp2
  go_ret
  exact ⟨rfl, rfl⟩
set_option maxRecDepth 100000 in
set_option maxHeartbeats 1000000 in
theorem text_num (n : Int) (w : World) (h1 : -99 ≤ n) (h2 : n ≤ 99) (ht : Tab w) :
    Calls Tryz.prog 124 #[.iface 147 (.int .i64 n)] w fun e w' => e = .returned (.string ⟨((110 : UInt8) :: Lib.itoa n).toArray⟩) ∧ Below w.heap.size w w' := by
  have a57 : ∀ w, (Instr.typeAssert (.iface 147 (.int .i64 n)) 142 147 true).run Tryz.prog w = .ok (.tuple #[.int .i64 n, .bool true]) w := fun _ => by kernel_rfl
  have hl := itoa_len n h1 h2
  have hl' : ¬ 9223372036854775807 < 1 + (Lib.itoa n).length := by omega
  go_enter Tryz.func124, Tryz.ntmps124
  go_wp2_with fail
  refine upon_method 126 (.int .i64 n) (by kernel_rfl) ?_
  go_wp2_with fail
  refine (count_num _ _).mono ?_
  rintro e w1 ⟨rfl, hw1⟩
  subst hw1
  go_wp2_with fail
  refine (itoa_any _ (by omega) (by omega) _ ht).mono ?_
  rintro e w2 ⟨rfl, hb⟩
  go_wp2_with fail
  go_ret
  exact ⟨congrArg (fun x => Ending.returned (.string x)) (cat [110] (Lib.itoa n)), hb⟩
theorem count_name (n : Int) (w : World) :
    Calls Tryz.prog 195 #[.int .i64 n] w fun e w' => e = .returned (.int .i64 n) ∧ w' = w := by
  go_enter Tryz.func195, Tryz.ntmps195
  go_wp2
  go_ret
  exact ⟨rfl, rfl⟩
set_option maxRecDepth 100000 in
set_option maxHeartbeats 1000000 in
theorem text_name (n : Int) (w : World) (h1 : -99 ≤ n) (h2 : n ≤ 99) (ht : Tab w) :
    Calls Tryz.prog 124 #[.iface 153 (.int .i64 n)] w fun e w' => e = .returned (.string ⟨((97 : UInt8) :: Lib.itoa n).toArray⟩) ∧ Below w.heap.size w w' := by
  have a57 : ∀ w, (Instr.typeAssert (.iface 153 (.int .i64 n)) 142 147 true).run Tryz.prog w = .ok (.tuple #[.int .i64 0, .bool false]) w := fun _ => by kernel_rfl
  have a58 : ∀ w, (Instr.typeAssert (.iface 153 (.int .i64 n)) 142 153 true).run Tryz.prog w = .ok (.tuple #[.int .i64 n, .bool true]) w := fun _ => by kernel_rfl
  have hl := itoa_len n h1 h2
  have hl' : ¬ 9223372036854775807 < 1 + (Lib.itoa n).length := by omega
  go_enter Tryz.func124, Tryz.ntmps124
  go_wp2_with fail
  refine upon_method 195 (.int .i64 n) (by kernel_rfl) ?_
  go_wp2_with fail
  refine (count_name _ _).mono ?_
  rintro e w1 ⟨rfl, hw1⟩
  subst hw1
  go_wp2_with fail
  refine (itoa_any _ (by omega) (by omega) _ ht).mono ?_
  rintro e w2 ⟨rfl, hb⟩
  go_wp2_with fail
  go_ret
  exact ⟨congrArg (fun x => Ending.returned (.string x)) (cat [97] (Lib.itoa n)), hb⟩
theorem count_run (n : Int) (w : World) :
    Calls Tryz.prog 197 #[.int .i64 n] w fun e w' => e = .returned (.int .i64 n) ∧ w' = w := by
  go_enter Tryz.func197, Tryz.ntmps197
  go_wp2
  go_ret
  exact ⟨rfl, rfl⟩
set_option maxRecDepth 100000 in
set_option maxHeartbeats 1000000 in
theorem text_run (n : Int) (w : World) (h1 : -99 ≤ n) (h2 : n ≤ 99) (ht : Tab w) :
    Calls Tryz.prog 124 #[.iface 154 (.int .i64 n)] w fun e w' => e = .returned (.string ⟨((114 : UInt8) :: Lib.itoa n).toArray⟩) ∧ Below w.heap.size w w' := by
  have a57 : ∀ w, (Instr.typeAssert (.iface 154 (.int .i64 n)) 142 147 true).run Tryz.prog w = .ok (.tuple #[.int .i64 0, .bool false]) w := fun _ => by kernel_rfl
  have a58 : ∀ w, (Instr.typeAssert (.iface 154 (.int .i64 n)) 142 153 true).run Tryz.prog w = .ok (.tuple #[.int .i64 0, .bool false]) w := fun _ => by kernel_rfl
  have a59 : ∀ w, (Instr.typeAssert (.iface 154 (.int .i64 n)) 142 154 true).run Tryz.prog w = .ok (.tuple #[.int .i64 n, .bool true]) w := fun _ => by kernel_rfl
  have hl := itoa_len n h1 h2
  have hl' : ¬ 9223372036854775807 < 1 + (Lib.itoa n).length := by omega
  go_enter Tryz.func124, Tryz.ntmps124
  go_wp2_with fail
  refine upon_method 197 (.int .i64 n) (by kernel_rfl) ?_
  go_wp2_with fail
  refine (count_run _ _).mono ?_
  rintro e w1 ⟨rfl, hw1⟩
  subst hw1
  go_wp2_with fail
  refine (itoa_any _ (by omega) (by omega) _ ht).mono ?_
  rintro e w2 ⟨rfl, hb⟩
  go_wp2_with fail
  go_ret
  exact ⟨congrArg (fun x => Ending.returned (.string x)) (cat [114] (Lib.itoa n)), hb⟩
theorem conv_one (w : World) (x : Int) : Sem.run Tryz.prog (convert 22 9 (.slice (some ⟨w.heap.size, 0, none⟩) 1 1)) (w.alloc (.cells #[.int .u8 x] 5)) = .ok (.string (strOfNums [x])) (w.alloc (.cells #[.int .u8 x] 5)) := by
  refine run_convert_bytes_arg (P := Tryz.prog) _ 22 5 Tryz.underlying22 Tryz.underlying5 w.heap.size 0 1 1 [x] rfl ?_ 9 Tryz.underlying9
  intro i hi
  obtain rfl : i = 0 := by omega
  simp [go_sem]
set_option maxRecDepth 100000 in
set_option maxHeartbeats 1000000 in
theorem dec_one (n : Int) (w : World) (h1 : 0 ≤ n) (h2 : n < 10) :
    Calls Tryz.prog 50 #[.int .i64 n] w fun e w' => e = .returned (.string ⟨(Lib.itoa n).toArray⟩) ∧ Below w.heap.size w w' := by
  have e1 : ¬ n < -9223372036854775807 := by omega
  have e2 : ¬ n < 0 := by omega
  have hc := conv_one w (48 + n)
  have hfin : strOfNums [48 + n] = ⟨(Lib.itoa n).toArray⟩ := by
    rw [itoa_pos n h1, dec_lt10 _ (by omega)]
    apply ByteArray.ext
    show (#[UInt8.ofNat (48 + n).toNat] : Array UInt8) = #[UInt8.ofNat (48 + n.toNat)]
    rw [show (48 + n).toNat = 48 + n.toNat from by omega]
  have HF := (show Hid _ from hfin)
  clear hfin
  go_enter Tryz.func50, Tryz.ntmps50
  go_wp2_with fail
  go_ret
  exact ⟨congrArg (fun x => Ending.returned (.string x)) HF.out, (Below.refl _ _).alloc (Nat.le_refl _) _⟩
theorem conv_at (W : World) (b : Nat) (x : Int) (hb : W.cell? ⟨b, 0, none⟩ = some (.int .u8 x)) : Sem.run Tryz.prog (convert 22 9 (.slice (some ⟨b, 0, none⟩) 1 1)) W = .ok (.string (strOfNums [x])) W := by
  refine run_convert_bytes_arg (P := Tryz.prog) _ 22 5 Tryz.underlying22 Tryz.underlying5 b 0 1 1 [x] rfl ?_ 9 Tryz.underlying9
  intro i hi
  obtain rfl : i = 0 := by omega
  simpa using hb
theorem conv_one_drew (w : World) (x : Int) : Sem.run Tryz.prog (convert 22 9 (.slice (some ⟨w.heap.size, 0, none⟩) 1 1)) (w.alloc (.cells #[.int .u8 x] 5)).drew = .ok (.string (strOfNums [x])) (w.alloc (.cells #[.int .u8 x] 5)).drew :=
  conv_at _ _ _ (by simp [go_sem])
theorem lt_alloc_drew' (W : World) (o : Obj) : W.heap.size < (W.alloc o).drew.heap.size := by simp
theorem new_drew (W : World) (x : Value) (t : TypeId) : (W.alloc (.cells #[x] t)).drew.cell? ⟨W.heap.size, 0, none⟩ = some x := by simp [go_sem]
theorem two_text (n : Int) (h1 : 10 ≤ n) (h2 : n < 100) : (⟨(Lib.itoa (n / 10)).toArray⟩ : ByteArray) ++ strOfNums [48 + n % 10] = ⟨(Lib.itoa n).toArray⟩ := by
  rw [itoa_pos n (by omega), itoa_pos (n / 10) (by omega), dec_lt100 n.toNat (by omega) (by omega), dec_lt10 (n / 10).toNat (by omega)]
  apply ByteArray.ext
  show (#[UInt8.ofNat (48 + (n / 10).toNat)] : Array UInt8) ++ #[UInt8.ofNat (48 + n % 10).toNat] = #[UInt8.ofNat (48 + n.toNat / 10), UInt8.ofNat (48 + n.toNat % 10)]
  rw [show (48 + n % 10).toNat = 48 + n.toNat % 10 from by omega, show (n / 10).toNat = n.toNat / 10 from by omega]
  rfl
set_option maxRecDepth 100000 in
set_option maxHeartbeats 2000000 in
theorem dec_two (n : Int) (w : World) (h1 : 10 ≤ n) (h2 : n < 100) :
    Calls Tryz.prog 50 #[.int .i64 n] w fun e w' => e = .returned (.string ⟨(Lib.itoa n).toArray⟩) ∧ Below w.heap.size w w' := by
  have e1 : ¬ n < -9223372036854775807 := by omega
  have e2 : ¬ n < 0 := by omega
  have e3 : ¬ n < 10 := by omega
  have hcv := fun (W : World) (b : Nat) => conv_at W b (48 + n % 10)
  have hm : n.tmod 10 = n % 10 := Int.tmod_eq_emod_of_nonneg (by omega)
  have hq : IntKind.i64.wrap (n.tdiv 10) = n / 10 := by rw [Int.tdiv_eq_ediv_of_nonneg (by omega)]; simp [IntKind.wrap, IntKind.bits, IntKind.signed]; omega
  have k1 : IntKind.i64.wrap (48 + n % 10) = 48 + n % 10 := by simp [IntKind.wrap, IntKind.bits, IntKind.signed]; omega
  have k2 : IntKind.u8.wrap (48 + n % 10) = 48 + n % 10 := by simp [IntKind.wrap, IntKind.bits, IntKind.signed]; omega
  have HF := (show Hid _ from two_text n h1 h2)
  have hl := itoa_len (n / 10) (by omega) (by omega)
  have hl' : ¬ 9223372036854775807 < (Lib.itoa (n / 10)).length + 1 := by omega
  have hsz : (strOfNums [48 + n % 10]).size = 1 := rfl
  go_enter Tryz.func50, Tryz.ntmps50
  go_wp2_with fail
  go_region_with (go_at_call 50; refine (dec_one (n / 10) _ (by omega) (by omega)).mono ?_; rintro e w1 ⟨rfl, hb1⟩; obtain ⟨hc1, hf1⟩ := bcell hb1)
  all_goals go_wp2_with fail
  all_goals go_ret
  all_goals refine ⟨congrArg (fun x => Ending.returned (.string x)) HF.out, ?_⟩
  all_goals first | exact ((Below.refl _ _).drew.trans hb1).alloc hb1.size _ | exact (((Below.refl _ _).alloc (Nat.le_refl _) _).drew).trans (hb1.mono (by simp))
theorem dec_small (n : Int) (w : World) (h1 : 0 ≤ n) (h2 : n < 100) :
    Calls Tryz.prog 50 #[.int .i64 n] w fun e w' => e = .returned (.string ⟨(Lib.itoa n).toArray⟩) ∧ Below w.heap.size w w' := by
  by_cases h : n < 10
  · exact dec_one n w h1 h
  · exact dec_two n w (by omega) h2
set_option maxRecDepth 100000 in
set_option maxHeartbeats 1000000 in
theorem dec_any (n : Int) (w : World) (h1 : -99 ≤ n) (h2 : n ≤ 99) :
    Calls Tryz.prog 50 #[.int .i64 n] w fun e w' => e = .returned (.string ⟨(Lib.itoa n).toArray⟩) ∧ Below w.heap.size w w' := by
  by_cases h : n < 0
  · have e1 : ¬ n < -9223372036854775807 := by omega
    have hl := itoa_len (-n) (by omega) (by omega)
    have hl' : ¬ 9223372036854775807 < 1 + (Lib.itoa (-n)).length := by omega
    have HF : Hid ((⟨#[45]⟩ : ByteArray) ++ ⟨(Lib.itoa (-n)).toArray⟩ = ⟨(Lib.itoa n).toArray⟩) := by
      show (⟨#[45]⟩ : ByteArray) ++ ⟨(Lib.itoa (-n)).toArray⟩ = ⟨(Lib.itoa n).toArray⟩
      rw [itoa_neg n h]; exact cat [45] (Lib.itoa (-n))
    go_enter Tryz.func50, Tryz.ntmps50
    go_wp2_with fail
    refine (dec_small (-n) _ (by omega) (by omega)).mono ?_
    rintro e w1 ⟨rfl, hb1⟩
    go_wp2_with fail
    go_ret
    exact ⟨congrArg (fun x => Ending.returned (.string x)) HF.out, hb1⟩
  · exact dec_small n w (by omega) (by omega)

/-- the text of a value -/
def txt (k n : Int) : List UInt8 :=
  if okB k n = true then (if k = 1 then 110 :: Lib.itoa n else if k = 2 then 97 :: Lib.itoa n else if k = 3 then 114 :: Lib.itoa n else [110, 111, 110, 101]) else []
theorem txt_bad {k n : Int} (h : okB k n = false) : txt k n = [] := by rw [txt, if_neg (by rw [h]; decide)]
theorem txt_none {n : Int} (h : okB 0 n = true) : txt 0 n = [110, 111, 110, 101] := by rw [txt, if_pos h]; rfl
theorem txt_num {n : Int} (h : okB 1 n = true) : txt 1 n = 110 :: Lib.itoa n := by rw [txt, if_pos h]; rfl
theorem txt_name {n : Int} (h : okB 2 n = true) : txt 2 n = 97 :: Lib.itoa n := by rw [txt, if_pos h]; rfl
theorem txt_run {n : Int} (h : okB 3 n = true) : txt 3 n = 114 :: Lib.itoa n := by rw [txt, if_pos h]; rfl
theorem okB_bd {k n : Int} (h : okB k n = true) : -99 ≤ n ∧ n ≤ 99 := by
  by_cases h0 : k = 0
  · subst h0; rw [okB_zero] at h; simp at h; omega
  by_cases h1 : k = 1
  · subst h1; rw [okB_one] at h; simp at h; omega
  by_cases h2 : k = 2
  · subst h2; rw [okB_two] at h; simp at h; omega
  by_cases h3 : k = 3
  · subst h3; rw [okB_three] at h; simp at h; omega
  rw [okB_else k n h0 h1 h2 h3] at h; cases h
theorem okB_kinds {k n : Int} (h : okB k n = true) : k = 0 ∨ k = 1 ∨ k = 2 ∨ k = 3 := by
  by_cases h0 : k = 0
  · exact .inl h0
  by_cases h1 : k = 1
  · exact .inr (.inl h1)
  by_cases h2 : k = 2
  · exact .inr (.inr (.inl h2))
  by_cases h3 : k = 3
  · exact .inr (.inr (.inr h3))
  rw [okB_else k n h0 h1 h2 h3] at h; cases h
set_option maxRecDepth 100000 in
set_option maxHeartbeats 1000000 in
theorem text_nil (w : World) :
    Calls Tryz.prog 124 #[.nilIface] w fun e w' => e = .returned (.string ⟨([110, 111, 110, 101] : List UInt8).toArray⟩) ∧ Below w.heap.size w w' := by
  have a57 : ∀ w, (Instr.typeAssert .nilIface 142 147 true).run Tryz.prog w = .ok (.tuple #[.int .i64 0, .bool false]) w := fun _ => by kernel_rfl
  have a58 : ∀ w, (Instr.typeAssert .nilIface 142 153 true).run Tryz.prog w = .ok (.tuple #[.int .i64 0, .bool false]) w := fun _ => by kernel_rfl
  have a59 : ∀ w, (Instr.typeAssert .nilIface 142 154 true).run Tryz.prog w = .ok (.tuple #[.int .i64 0, .bool false]) w := fun _ => by kernel_rfl
  go_enter Tryz.func124, Tryz.ntmps124
  go_wp2_with fail
  go_ret
  exact ⟨rfl, Below.refl _ _⟩
theorem thingText_any (k n : Int) (w : World) (h : okB k n = true) (ht : Tab w) :
    Calls Tryz.prog 124 #[thingV k n] w fun e w' => e = .returned (.string ⟨(txt k n).toArray⟩) ∧ Below w.heap.size w w' := by
  have hb := okB_bd h
  rcases okB_kinds h with rfl | rfl | rfl | rfl
  · rw [txt_none h, show thingV 0 n = .nilIface from by simp [thingV]]; exact text_nil w
  · rw [txt_num h, show thingV 1 n = .iface 147 (.int .i64 n) from by simp [thingV, h]]; exact text_num n w hb.1 hb.2 ht
  · rw [txt_name h, show thingV 2 n = .iface 153 (.int .i64 n) from by simp [thingV, h]]; exact text_name n w hb.1 hb.2 ht
  · rw [txt_run h, show thingV 3 n = .iface 154 (.int .i64 n) from by simp [thingV, h]]; exact text_run n w hb.1 hb.2 ht
set_option maxHeartbeats 1000000 in
theorem implText_any (k n : Int) (w : World) (ht : Tab w) :
    Calls Tryz.prog 112 #[.agg #[.int .i64 k, .int .i64 n]] w fun e w' => e = .returned (.string ⟨(txt k n).toArray⟩) ∧ Below w.heap.size w w' := by
  cases hok : okB k n with
  | false =>
    rw [txt_bad hok]
    go_enter Tryz.func112, Tryz.ntmps112
    go_wp2_with fail
    refine (thing_any _ _ _).mono ?_
    rintro e w1 ⟨rfl, hb⟩
    go_wp2_with fail
    go_ret
    exact ⟨rfl, ((Below.refl _ _).alloc (Nat.le_refl _) _).trans (hb.mono (by simp))⟩
  | true =>
    have ht1 := ht.below ((Below.refl _ _).alloc (Nat.le_refl _) (.cells #[.int .i64 k, .int .i64 n] 41))
    go_enter Tryz.func112, Tryz.ntmps112
    go_wp2_with fail
    refine (thing_any _ _ _).mono ?_
    rintro e w1 ⟨rfl, hb⟩
    have ht2 := ht1.below hb
    go_wp2_with fail
    refine (thingText_any _ _ _ hok ht2).mono ?_
    rintro e w2 ⟨rfl, hb2⟩
    go_wp2_with fail
    go_ret
    have := hb.size
    simp at this
    exact ⟨rfl, (((Below.refl _ _).alloc (Nat.le_refl _) _).trans (hb.mono (by simp))).trans (hb2.mono (by omega))⟩
end Go.Proofs.YtekmjgkjpdhedaaGreatDoor
