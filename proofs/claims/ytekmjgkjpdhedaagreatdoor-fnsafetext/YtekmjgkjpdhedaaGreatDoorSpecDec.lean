/-
  What the specification's l1Dec answers, in two forms.
-/
import Derived.Test.YtekmjgkjpdhedaaGreatDoorDec
namespace Go.Proofs.YtekmjgkjpdhedaaGreatDoor
open Go.ChangeShapes Go.WideShapes Go.ChangeAt Go.RowKit Go.Joins
theorem alld_dec (u : Nat) (h : u < 100) : alld (Lib.decDigits u) = true := by
  by_cases h10 : u < 10
  · rw [dec_lt10 u h10]; simp only [alld, List.all_cons, List.all_nil, fig u h10]; simp; omega
  · rw [dec_lt100 u (by omega) h]; simp only [alld, List.all_cons, List.all_nil, fig (u / 10) (by omega), fig (u % 10) (by omega)]; simp; omega
theorem valD_dec (u : Nat) (h : u < 100) : valD (Lib.decDigits u) = u := by
  by_cases h10 : u < 10
  · rw [dec_lt10 u h10]; simp only [valD, List.foldl_cons, List.foldl_nil, fig u h10]; omega
  · rw [dec_lt100 u (by omega) h]; simp only [valD, List.foldl_cons, List.foldl_nil, fig (u / 10) (by omega), fig (u % 10) (by omega)]; omega
theorem dec_len1 (u : Nat) (h : u < 100) : 1 ≤ (Lib.decDigits u).length := by
  by_cases h10 : u < 10
  · rw [dec_lt10 u h10]; simp
  · rw [dec_lt100 u (by omega) h]; simp
theorem ba_size (l : List UInt8) : (ByteArray.mk l.toArray).size = l.length := by simp [ByteArray.size]
theorem byte_ne {c : UInt8} {m : Nat} (hm : m < 256) (h : c ≠ UInt8.ofNat m) : c.toNat ≠ m := by
  intro hh; apply h; apply UInt8.toNat_inj.1; rw [hh, UInt8.toNat_ofNat']; omega
/-- the numeral of a number up to two figures is read -/
theorem l1Dec_yes (n : Int) (w : World) (h1 : -99 ≤ n) (h2 : n ≤ 99) :
    Calls Tryz.prog 59 #[.string ⟨(Lib.itoa n).toArray⟩] w fun e w' => e = .returned (.tuple #[.int .i64 n, .bool true]) ∧ w' = w := by
  by_cases h : n < 0
  · rw [itoa_neg n h, itoa_pos (-n) (by omega)]
    have hu : (-n).toNat < 100 := by omega
    have hl := dec_len (-n).toNat hu
    have hl1 := dec_len1 (-n).toNat hu
    have e := l1Dec_minus ⟨(45 :: Lib.decDigits (-n).toNat).toArray⟩ ⟨(Lib.decDigits (-n).toNat).toArray⟩ w (by rw [ba_size]; exact extract_mk_tail _ _) (by rw [ba_size, List.length_cons]; omega) (by rw [ba_size]; omega) (by rw [ba_size]; omega) rfl
    rw [resD_yes (alld_dec _ hu)] at e
    have ev : (-1 : Int) * valD (Lib.decDigits (-n).toNat) = n := by rw [valD_dec _ hu]; omega
    have ev' : (-1 : Int) * valD (ByteArray.mk (Lib.decDigits (-n).toNat).toArray).data.toList = n := ev
    rw [ev'] at e
    exact e
  · rw [itoa_pos n (by omega)]
    have hu : n.toNat < 100 := by omega
    have hl := dec_len n.toNat hu
    have hl1 := dec_len1 n.toNat hu
    have ev : (1 : Int) * valD (ByteArray.mk (Lib.decDigits n.toNat).toArray).data.toList = n := by show (1 : Int) * valD (Lib.decDigits n.toNat) = n; rw [valD_dec _ hu]; omega
    by_cases hone : (Lib.decDigits n.toNat).length ≤ 1
    · have e := l1Dec_one ⟨(Lib.decDigits n.toNat).toArray⟩ w (by rw [ba_size]; omega) (by rw [ba_size]; omega)
      rw [resD_yes (alld_dec _ hu), ev] at e
      exact e
    · obtain ⟨b, r, hd, h45, _⟩ := dec_head n.toNat hu
      have hbn : b ≠ 45 := by simpa using h45
      have hx := byte_ne (m := 45) (by omega) hbn
      rw [hd] at ev hone hl ⊢
      have al : alld (b :: r) = true := by rw [← hd]; exact alld_dec _ hu
      have e := l1Dec_two ⟨(b :: r).toArray⟩ w (by rw [ba_size]; omega) (by rw [ba_size]; omega) (by show ((b.toNat : Int) == 45) = false; rw [beq_eq_false_iff_ne]; omega)
      rw [resD_yes al, ev] at e
      exact e
/-- whatever stands there, something is read -/
theorem l1Dec_some (r : List UInt8) (h1 : 1 ≤ r.length) (h3 : r.length ≤ 3) : ∃ x b, ∀ w : World,
    Calls Tryz.prog 59 #[.string ⟨r.toArray⟩] w fun e w' => e = .returned (.tuple #[.int .i64 x, .bool b]) ∧ w' = w := by
  have res : ∀ sg l, ∃ x b, resD sg l = .tuple #[.int .i64 x, .bool b] := fun sg l => by
    cases h : alld l with
    | true => exact ⟨_, _, resD_yes h⟩
    | false => exact ⟨_, _, resD_no h⟩
  match r, h1, h3 with
  | [a], _, _ =>
    obtain ⟨x, b, hx⟩ := res 1 [a]
    exact ⟨x, b, fun w => by have e := l1Dec_one ⟨#[a]⟩ w (by simp [ByteArray.size]) (by simp [ByteArray.size]); rw [show (ByteArray.mk #[a]).data.toList = [a] from rfl, hx] at e; exact e⟩
  | [a, c], _, _ =>
    by_cases ha : a = 45
    · subst ha
      obtain ⟨x, b, hx⟩ := res (-1) [c]
      exact ⟨x, b, fun w => by have e := l1Dec_minus ⟨#[45, c]⟩ ⟨#[c]⟩ w (extract_mk_tail 45 [c]) (by simp [ByteArray.size]) (by simp [ByteArray.size]) (by simp [ByteArray.size]) rfl; rw [show (ByteArray.mk #[c]).data.toList = [c] from rfl, hx] at e; exact e⟩
    · have hx' := byte_ne (m := 45) (by omega) ha
      obtain ⟨x, b, hx⟩ := res 1 [a, c]
      exact ⟨x, b, fun w => by have e := l1Dec_two ⟨#[a, c]⟩ w (by simp [ByteArray.size]) (by simp [ByteArray.size]) (by show ((a.toNat : Int) == 45) = false; rw [beq_eq_false_iff_ne]; omega); rw [show (ByteArray.mk #[a, c]).data.toList = [a, c] from rfl, hx] at e; exact e⟩
  | [a, c, d], _, _ =>
    by_cases ha : a = 45
    · subst ha
      obtain ⟨x, b, hx⟩ := res (-1) [c, d]
      exact ⟨x, b, fun w => by have e := l1Dec_minus ⟨#[45, c, d]⟩ ⟨#[c, d]⟩ w (extract_mk_tail 45 [c, d]) (by simp [ByteArray.size]) (by simp [ByteArray.size]) (by simp [ByteArray.size]) rfl; rw [show (ByteArray.mk #[c, d]).data.toList = [c, d] from rfl, hx] at e; exact e⟩
    · have hx' := byte_ne (m := 45) (by omega) ha
      exact ⟨0, false, fun w => l1Dec_long ⟨#[a, c, d]⟩ w (by simp [ByteArray.size]) (by simp [ByteArray.size]) (by show ((a.toNat : Int) == 45) = false; rw [beq_eq_false_iff_ne]; omega)⟩
end Go.Proofs.YtekmjgkjpdhedaaGreatDoor
