/-
  The lines of a text: what strings.Split and strings.CutSuffix answer at a newline, over this translation; nothing that was there turns.
  impl.stepsOf over this translation: at any text, the ok steps whose text it is, in a row of their own, or an error of the program's own type; nothing that was there turns.
  impl.CodeRead over this translation: at any text, the ok steps whose text it is, in a row of their own, and true, or none and false; nothing that was there turns.
-/
import Derived.Test.YtekmjgkjpdhedaaGreatDoorOpImplRead
import Derived.Test.YtekmjgkjpdhedaaGreatDoorLines
import Derived.Shelf.Strings.Split
import Derived.Test.YtekmjgkjpdhedaaGreatDoorOwnOps
import Derived.Test.YtekmjgkjpdhedaaGreatDoorCodeOkI
import Derived.Test.YtekmjgkjpdhedaaGreatDoorErrAs
namespace Go.Proofs.YtekmjgkjpdhedaaGreatDoor
open Go.ChangeShapes Go.WideShapes Go.ChangeAt Go.RowKit Go.Joins
def pcl : List UInt8 → List (List UInt8)
  | [] => [[]]
  | c :: l => if c = 10 then [] :: pcl l else (c :: (pcl l).headD []) :: (pcl l).tail
theorem pcl_nl (l : List UInt8) : pcl (10 :: l) = [] :: pcl l := by rw [pcl, if_pos rfl]
theorem pcl_other {c : UInt8} (l : List UInt8) (h : c ≠ 10) : pcl (c :: l) = (c :: (pcl l).headD []) :: (pcl l).tail := by rw [pcl, if_neg h]
theorem pcl_some : ∀ t : List UInt8, pcl t ≠ []
  | [] => by simp [pcl]
  | c :: l => by
    by_cases h : c = 10
    · subst h; rw [pcl_nl]; simp
    · rw [pcl_other l h]; simp
theorem pcl_cons (t : List UInt8) : ∃ a r, pcl t = a :: r := by
  cases h : pcl t with
  | nil => exact absurd h (pcl_some t)
  | cons a r => exact ⟨a, r, rfl⟩
theorem cutStepAt_nl (out : List (List UInt8)) : cutStepAt 10 out 10 = out ++ [[]] := by rw [cutStepAt, if_pos rfl]
theorem cutStepAt_other (P : List (List UInt8)) (q : List UInt8) {c : UInt8} (h : c ≠ 10) : cutStepAt 10 (P ++ [q]) c = P ++ [q ++ [c]] := by
  rw [cutStepAt, if_neg h]; simp
/-- the library's split -/
theorem splitK_pcl : ∀ t : List UInt8, Lib.splitK [10] 0 (Lib.count t [10]) t = pcl t
  | [] => by decide
  | c :: l => by
    have ih := splitK_pcl l
    by_cases h : c = 10
    · subst h
      rw [Lib.count_cons_eq, Nat.add_comm, pcl_nl, ← ih]
      have e : Lib.index (10 :: l) [10] = 0 := by simp [Lib.index]
      rw [Lib.splitK, e]; simp
    · rw [Lib.count_cons_ne _ _ _ h, pcl_other l h, ← ih]
      cases hk : Lib.count l [10] with
      | zero => simp [Lib.splitK]
      | succ k =>
        obtain ⟨i, hi⟩ := Lib.index_of_count (s := l) (old := [10]) (by omega)
        have e : Lib.index (c :: l) [10] = (i : Int) + 1 := by
          have hp : ([10] : List UInt8).isPrefixOf (c :: l) = false := by simp [List.isPrefixOf]; exact fun e => h e.symm
          rw [Lib.index, if_neg (by rw [hp]; simp), hi, if_neg (by simp <;> omega)]
        have e1 : ((i : Int) + 1 == -1) = false := by simp <;> omega
        have e2 : ((i : Int) == -1) = false := by simp <;> omega
        have e3 : ((i : Int) + 1).toNat = i + 1 := by omega
        rw [Lib.splitK, Lib.splitK, e, hi, e1, e2, e3]
        simp
/-- the cut byte by byte -/
theorem fold_pcl : ∀ (t : List UInt8) (P : List (List UInt8)) (q : List UInt8), t.foldl (cutStepAt 10) (P ++ [q]) = P ++ ((q ++ (pcl t).headD []) :: (pcl t).tail)
  | [], P, q => by simp [pcl]
  | c :: l, P, q => by
    by_cases h : c = 10
    · subst h
      rw [List.foldl_cons, cutStepAt_nl, fold_pcl l (P ++ [q]) [], pcl_nl]
      obtain ⟨a, r, e⟩ := pcl_cons l
      simp [e]
    · rw [List.foldl_cons, cutStepAt_other P q h, fold_pcl l P (q ++ [c]), pcl_other l h]
      simp
theorem cuts_pcl (t : List UInt8) : cutsAt 10 t = pcl t := by
  have := fold_pcl t [] []
  unfold cutsAt
  simp at this
  rw [this]
  obtain ⟨a, r, e⟩ := pcl_cons t
  simp [e]
/-- the lines of a text, in memory -/
def linA (t : List UInt8) : Array Value := ((cutsAt 10 t).map fun x => Value.string ⟨x.toArray⟩).toArray
theorem split10_any (t : List UInt8) (ht : t.length ≤ 1048576) (w : World) (hM : Max w) :
    Calls Tryz.prog 53 #[.string ⟨t.toArray⟩, .string ⟨#[10]⟩] w fun e w' => e = .returned (.slice (some ⟨w.heap.size, 0, none⟩) (cutsAt 10 t).length (cutsAt 10 t).length) ∧ w' = w.alloc (.cells (linA t) 9) := by
  obtain ⟨m, hM⟩ := hM
  have hs : (⟨t.toArray⟩ : ByteArray).size = t.length := by simp [ByteArray.size]
  have hd := Lib.splitB_data ⟨#[10]⟩ 0 (Lib.countB ⟨t.toArray⟩ ⟨#[10]⟩) ⟨t.toArray⟩
  have hc : Lib.countB ⟨t.toArray⟩ ⟨#[10]⟩ = Lib.count t [10] := by simp [Lib.countB]
  have e1 : (Lib.splitB ⟨#[10]⟩ 0 (Lib.countB ⟨t.toArray⟩ ⟨#[10]⟩) ⟨t.toArray⟩).map (·.data.toList) = cutsAt 10 t := by
    rw [hd, hc, cuts_pcl]; exact splitK_pcl t
  have e2 : (Lib.splitB ⟨#[10]⟩ 0 (Lib.countB ⟨t.toArray⟩ ⟨#[10]⟩) ⟨t.toArray⟩).map Value.string = (cutsAt 10 t).map fun x => Value.string ⟨x.toArray⟩ := by
    rw [← e1, List.map_map]; apply List.map_congr_left; intro x _; simp
  have e3 : Lib.countB ⟨t.toArray⟩ ⟨#[10]⟩ + 1 = (cutsAt 10 t).length := by
    rw [← Lib.splitB_all ⟨#[10]⟩ (by decide) 0 _ ⟨t.toArray⟩ rfl, ← e1, List.length_map]
  have c := Any.strings_Split { laysSplit with } laysSplit.i9 ⟨t.toArray⟩ ⟨#[10]⟩ m w (by rw [hs]; omega) hM (by decide)
  rw [e2, e3] at c
  exact c
theorem linA_cell (x : List UInt8) (i : Nat) (hi : i < (cutsAt 10 x).length) (w : World) : (w.alloc (.cells (linA x) 9)).cell? ⟨w.heap.size, i, none⟩ = some (.string ⟨(cutsAt 10 x)[i].toArray⟩) := by
  have h : (linA x)[i]? = some (.string ⟨(cutsAt 10 x)[i].toArray⟩) := by
    unfold linA
    rw [List.getElem?_toArray, List.getElem?_map, List.getElem?_eq_getElem hi]; rfl
  simp [go_sem, h]
theorem cuts_nl (y : List UInt8) : cutsAt 10 (y ++ [10]) = cutsAt 10 y ++ [[]] := by rw [cutsAt_snoc, cutStepAt_nl]
/-- a text that ends otherwise is no ok steps' -/
theorem read_no_nl {x : List UInt8} (h : ∀ y, x ≠ y ++ [10]) : ReadCode x [] false := by
  refine .inr ⟨rfl, rfl, fun D hD e => ?_⟩
  have hd := (codeB_well hD).1.1
  obtain ⟨A, z, rfl⟩ : ∃ A z, D = A ++ [z] := ⟨_, _, (List.dropLast_concat_getLast (by intro h; rw [h] at hd; simp at hd)).symm⟩
  refine h (linesOf A ++ z.txt) ?_
  rw [e]; simp [linesOf]
theorem ex_last (y : List UInt8) (c : UInt8) : (ByteArray.mk (y ++ [c]).toArray).extract y.length (y.length + 1) = ⟨[c].toArray⟩ := by
  apply ByteArray.ext
  rw [ByteArray.data_extract]
  apply Array.ext'
  simp
theorem ex_init (y : List UInt8) (c : UInt8) : (ByteArray.mk (y ++ [c]).toArray).extract 0 y.length = ⟨y.toArray⟩ := by
  apply ByteArray.ext
  rw [ByteArray.data_extract]
  apply Array.ext'
  simp
set_option maxHeartbeats 1000000 in
theorem hasSuffix_snoc (y : List UInt8) (c : UInt8) (w : World) (hl : y.length ≤ 1048576) :
    Calls Tryz.prog 116 #[.string ⟨(y ++ [c]).toArray⟩, .string ⟨#[10]⟩] w fun e w' => e = .returned (.bool (c == 10)) ∧ w' = w := by
  have hz : (⟨(y ++ [c]).toArray⟩ : ByteArray).size = y.length + 1 := by simp [ByteArray.size]
  go_enter Tryz.func116, Tryz.ntmps116
  go_wp2_with fail
  go_ret
  refine ⟨?_, rfl⟩
  rw [ex_last]
  have e : (ByteArray.mk [c].toArray).toList = [c] := by simp [ByteArray.toList_eq]
  rw [e]
  cases h : (c == 10) <;> simp_all
set_option maxHeartbeats 1000000 in
theorem hasSuffix_nil (w : World) :
    Calls Tryz.prog 116 #[.string ⟨#[]⟩, .string ⟨#[10]⟩] w fun e w' => e = .returned (.bool false) ∧ w' = w := by
  go_enter Tryz.func116, Tryz.ntmps116
  go_wp2_with fail
  go_ret
  exact ⟨rfl, rfl⟩
set_option maxHeartbeats 1000000 in
theorem lcut_no (x : List UInt8) (w : World) (H : Hid (∀ W, Calls Tryz.prog 116 #[.string ⟨x.toArray⟩, .string ⟨#[10]⟩] W fun e w' => e = .returned (.bool false) ∧ w' = W)) :
    Calls Tryz.prog 94 #[.string ⟨x.toArray⟩, .string ⟨#[10]⟩] w fun e w' => e = .returned (.tuple #[.string ⟨x.toArray⟩, .bool false]) ∧ w' = w := by
  go_enter Tryz.func94, Tryz.ntmps94
  go_wp2_with fail
  refine (H.out _).mono ?_
  rintro e w1 ⟨rfl, rfl⟩
  go_wp2_with fail
  go_ret2
  exact ⟨rfl, rfl⟩
set_option maxHeartbeats 1000000 in
theorem lcut_yes (y : List UInt8) (w : World) (hl : y.length ≤ 1048576) :
    Calls Tryz.prog 94 #[.string ⟨(y ++ [10]).toArray⟩, .string ⟨#[10]⟩] w fun e w' => e = .returned (.tuple #[.string ⟨y.toArray⟩, .bool true]) ∧ w' = w := by
  have hz : (⟨(y ++ [10]).toArray⟩ : ByteArray).size = y.length + 1 := by simp [ByteArray.size]
  have H : Hid (∀ W, Calls Tryz.prog 116 #[.string ⟨(y ++ [10]).toArray⟩, .string ⟨#[10]⟩] W fun e w' => e = .returned (.bool true) ∧ w' = W) := fun W => hasSuffix_snoc y 10 W hl
  have i1 : (0 : Int) ≤ (y.length : Int) := by omega
  go_enter Tryz.func94, Tryz.ntmps94
  go_wp2_with fail
  refine (H.out _).mono ?_
  rintro e w1 ⟨rfl, rfl⟩
  go_wp2_with fail
  go_ret2
  exact ⟨by rw [ex_init]; rfl, rfl⟩
set_option maxHeartbeats 1000000 in
theorem cutSuffix_yes (y : List UInt8) (w : World) (hl : y.length ≤ 1048576) :
    Calls Tryz.prog 52 #[.string ⟨(y ++ [10]).toArray⟩, .string ⟨#[10]⟩] w fun e w' => e = .returned (.tuple #[.string ⟨y.toArray⟩, .bool true]) ∧ w' = w := by
  have H := (show Hid _ from fun W => lcut_yes y W hl)
  go_enter Tryz.func52, Tryz.ntmps52
  go_wp2_with fail
  refine (H.out _).mono ?_
  rintro e w1 ⟨rfl, rfl⟩
  go_wp2_with fail
  go_ret2
  exact ⟨rfl, rfl⟩
set_option maxHeartbeats 1000000 in
theorem cutSuffix_no (x : List UInt8) (w : World) (hl : x.length ≤ 1048576) (h : ∀ y, x ≠ y ++ [10]) :
    Calls Tryz.prog 52 #[.string ⟨x.toArray⟩, .string ⟨#[10]⟩] w fun e w' => e = .returned (.tuple #[.string ⟨x.toArray⟩, .bool false]) ∧ w' = w := by
  have K : ∀ W, Calls Tryz.prog 116 #[.string ⟨x.toArray⟩, .string ⟨#[10]⟩] W fun e w' => e = .returned (.bool false) ∧ w' = W := by
    intro W
    rcases List.eq_nil_or_concat x with rfl | ⟨y, c, rfl⟩
    · exact hasSuffix_nil W
    · have e : (c == 10) = false := by rw [beq_eq_false_iff_ne]; intro e; exact h y (by rw [e]; simp)
      have k := hasSuffix_snoc y c W (by simp at hl; omega)
      rw [e] at k
      simpa using k
  have H := (show Hid _ from fun W => lcut_no x W K)
  clear K h
  go_enter Tryz.func52, Tryz.ntmps52
  go_wp2_with fail
  refine (H.out _).mono ?_
  rintro e w1 ⟨rfl, rfl⟩
  go_wp2_with fail
  go_ret2
  exact ⟨rfl, rfl⟩
end Go.Proofs.YtekmjgkjpdhedaaGreatDoor
namespace Go.Proofs.YtekmjgkjpdhedaaGreatDoor
open Go.ChangeShapes Go.WideShapes Go.ChangeAt Go.RowKit Go.Joins
/-- what stepsOf answers -/
def StepsIs (x : List UInt8) (w : World) (e : Ending) (w' : World) : Prop :=
  ((∃ C v, ReadCode x C true ∧ e = .returned (.tuple #[v, .nilIface]) ∧ OwnsO w' w.heap.size v C) ∨ (∃ s, ReadCode x [] false ∧ e = .returned (.tuple #[.slice none 0 0, .iface 50 (.agg #[.string s])]))) ∧ Below w.heap.size w w'
set_option maxRecDepth 100000 in
set_option maxHeartbeats 8000000 in
theorem stepsOf_lines (y : List UInt8) (w : World) (hx : y.length + 1 ≤ 400) (hT : Tab w) (hE : Errs w) (hM : Max w) :
    Calls Tryz.prog 28 #[.string ⟨(y ++ [10]).toArray⟩] w fun e w' => StepsIs (y ++ [10]) w e w' := by
  have g1 : ¬ (400 : Int) < ((y ++ [10]).length : Int) := by simp; omega
  have hcs : Hid (∀ W, Calls Tryz.prog 52 #[.string ⟨(y ++ [10]).toArray⟩, .string ⟨#[10]⟩] W fun e w' => e = .returned (.tuple #[.string ⟨y.toArray⟩, .bool true]) ∧ w' = W) := fun W => cutSuffix_yes y W (by omega)
  have hcl := cutsAt_len 10 y
  have hne := cutsAt_some 10 y
  have hnl : Hid (cutsAt 10 (y ++ [10]) = cutsAt 10 y ++ [[]]) := cuts_nl y
  obtain ⟨n, hn⟩ : ∃ n, n = (cutsAt 10 y).length := ⟨_, rfl⟩
  have hsp : Hid (∀ W, Max W → Calls Tryz.prog 53 #[.string ⟨y.toArray⟩, .string ⟨#[10]⟩] W fun e w' => e = .returned (.slice (some ⟨W.heap.size, 0, none⟩) n n) ∧ w' = W.alloc (.cells (linA y) 9)) := fun W hM => by rw [hn]; exact split10_any y (by omega) W hM
  have hlc : Hid (∀ (W : World) i (hi : i < (cutsAt 10 y).length), (W.alloc (.cells (linA y) 9)).cell? ⟨W.heap.size, i, none⟩ = some (.string ⟨(cutsAt 10 y)[i].toArray⟩)) := fun W i hi => linA_cell y i hi W
  generalize hPe : cutsAt 10 y = P at *
  replace hPe : Hid (cutsAt 10 y = P) := hPe
  generalize hxe : y ++ [10] = x at *
  replace hxe : Hid (y ++ [10] = x) := hxe
  have hnb : n ≤ 400 := by omega
  have hn0 : 1 ≤ n := by have := List.length_pos_iff.2 hne; omega
  replace hn : Hid (n = P.length) := hn
  go_enter Tryz.func28, Tryz.ntmps28
  go_wp2_with fail
  refine (hcs.out _).mono ?_
  rintro e w0 ⟨rfl, rfl⟩
  go_wp2_with fail
  refine (hsp.out _ hM).mono ?_
  rintro e w1 ⟨rfl, hw1⟩
  have hc : Hid (∀ i (hi : i < P.length), w1.cell? ⟨w0.heap.size, i, none⟩ = some (.string ⟨P[i].toArray⟩)) := fun i hi => by rw [hw1]; exact hlc.out w0 i hi
  have hb1 : Below w0.heap.size w0 w1 := by rw [hw1]; exact (Below.refl _ _).alloc (Nat.le_refl _) _
  have hz1 : w0.heap.size < w1.heap.size := by rw [hw1]; simp
  have hT1 := hT.below hb1
  have hE1 := hE.below hb1
  have hM1 := hM.below hb1
  clear hw1 hlc hsp hcs hT hE hM
  obtain ⟨inf, i1, i2, i3, i4⟩ := infoO
  go_wp2_with fail
  go_loopw [6, 28] (fun v i wr => ∃ (k : Nat) (O : List OpV), k ≤ n ∧ i = .int .i64 k ∧ LinesTo x k O ∧ OwnsO wr w1.heap.size v O ∧ Below w1.heap.size w1 wr) (fun _ i _ => n - (intOf i).toNat)
  case atStart => exact ⟨0, [], Nat.zero_le _, rfl, LinesTo.zero x, ownsO_nil _ _, Below.refl _ _⟩
  case round =>
    obtain ⟨k, O, hk, rfl, hL, hO, hB⟩ := hrel
    have hzr := hB.size
    have hOl := hL.1
    by_cases hlt : k < n
    · have g3 : (k : Int) < (n : Int) := by omega
      have hkp : k < P.length := by have := hn.out; omega
      have ck : wr.cell? ⟨w0.heap.size, k, none⟩ = some (.string ⟨P[k].toArray⟩) := (hB.cell (p := ⟨w0.heap.size, k, none⟩) hz1).trans (hc.out k hkp)
      have hPk : Hid ((cutsAt 10 x)[k]? = some P[k]) := by show _ = _; rw [hnl.out, List.getElem?_append_left hkp, List.getElem?_eq_getElem hkp]
      have hPl : Hid (k + 1 < (cutsAt 10 x).length) := by show _ < _; rw [hnl.out, List.length_append, List.length_singleton]; omega
      have hL' : Hid (LinesTo x k O) := hL
      generalize P[k] = q at *
      clear hL
      obtain ⟨k', r, s, t, a, b, ok, hR, Cq⟩ := implOpRead_any q
      have hCq : Hid _ := Cq
      clear Cq
      have hTr := hT1.below hB
      have hEr := hE1.below hB
      have hMr := hM1.below hB
      go_wp2_with fail
      refine (hCq.out _ hTr hEr hMr).mono ?_
      rintro e w2 ⟨rfl, hb2⟩
      have hz2 := hb2.size
      have hB2 : Below w1.heap.size w1 w2 := hB.trans (hb2.mono hzr)
      have hO2 := OwnsO.below hO hb2
      clear hCq hTr hEr hMr ck
      rcases hR with ⟨rfl, hok, hqe⟩ | ⟨rfl, ⟨rfl, rfl, rfl, rfl, rfl, rfl⟩, hno⟩
      · have hL2 : Hid (LinesTo x (k + 1) (O ++ [⟨k', r, s, t, a, b⟩])) := hL'.out.next (o := ⟨k', r, s, t, a, b⟩) hok (by rw [hPk.out, hqe]; rfl)
        clear hqe hL' hPk hPl hO
        have hOb : O.length ≤ 1048576 := by omega
        clear hOl
        go_wp2_with (refine wpList_append_own _ rfl (.tmp 41) (.tmp 43) 23 rfl w1.heap.size 43 inf (.agg #[.int .i64 0, .int .i64 0, .int .i64 0, .int .i64 0, .int .i64 0, .int .i64 0]) 6 48 Tryz.underlying23 i1 i2 i3 i4 rfl (by decide) _ _ _ rfl (World.ownsRow.alloc (World.ownsRow.alloc hO2 _) _) ⟨w2.heap.size + 1, 0, none⟩ 1 1 (OpV.cells ⟨k', r, s, t, a, b⟩) rfl rfl (by intro q u hq; rcases (by have := (List.getElem?_eq_some_iff.1 hq).1; simp [OpV.cells] at this; omega : q = 0 ∨ q = 1 ∨ q = 2 ∨ q = 3 ∨ q = 4 ∨ q = 5) with rfl | rfl | rfl | rfl | rfl | rfl <;> (simp [OpV.cells] at hq; subst hq; simp [Addr.add, go_sem])) (by simp [OpV.cells, Value.oneCell']) (by unfold maxLen; omega) (by omega) (by simp <;> omega) ?_; intro x0 w4 ho0 hg0 _)
        have hB4 : Below w1.heap.size w1 w4 := ((hB2.alloc (by omega) _).alloc (by simp; omega) _).grown hg0 (by simp; omega) (by intro k hk; have := (World.ownsRow.lt hO2 k hk).1; omega)
        go_roundw
        case rel => exact ⟨k + 1, _, by omega, by go_num, hL2.out, by unfold OwnsO; rw [cellsO_snoc]; simpa using ho0, hB4⟩
        case measure => simp [intOf]; omega
      · have hr : Hid (ReadCode x [] false) := read_no_line hPl.out hPk.out hno
        clear hno hL' hPk hPl
        go_wp2_with fail
        all_goals
          go_ret2
          exact ⟨.inr ⟨_, hr.out, rfl⟩, (hb1.trans (hB2.mono (by omega))).alloc (by omega) _⟩
    · have e : k = n := by omega
      subst e
      have hall := read_all (O := O) (by rw [hOl]; exact hL) (by rw [hnl.out, hOl, List.length_append, List.length_singleton, hn.out]) (by rw [hnl.out]; simp)
      obtain ⟨ao, cp, rfl, hC, _⟩ := hO.code
      have hOs : O.length ≤ 1048576 := by omega
      clear hOl
      go_wp2_with fail
      refine (implCodeOk_any O ao cp _ hOs hC).mono ?_
      rintro e w2 ⟨rfl, hb2⟩
      have hB2 : Below w0.heap.size w0 w2 := hb1.trans ((hB.trans (hb2.mono hzr)).mono (by omega))
      have hO2 := OwnsO.below hO hb2
      cases hcb : codeB O with
      | true =>
        have hr : Hid (ReadCode x O true) := hall.1 hcb
        clear hall
        go_wp2_with fail
        go_ret2
        exact ⟨.inl ⟨O, _, hr.out, rfl, OwnsO.mono hO2 (by omega)⟩, hB2⟩
      | false =>
        have hr : Hid (ReadCode x [] false) := hall.2 hcb
        clear hall
        go_wp2_with fail
        go_ret2
        exact ⟨.inr ⟨_, hr.out, rfl⟩, hB2⟩
set_option maxRecDepth 20000 in
set_option maxHeartbeats 2000000 in
theorem stepsOf_any (x : List UInt8) (w : World) (hT : Tab w) (hE : Errs w) (hM : Max w) :
    Calls Tryz.prog 28 #[.string ⟨x.toArray⟩] w fun e w' => StepsIs x w e w' := by
  by_cases h400 : 400 < x.length
  · have g1 : (400 : Int) < (x.length : Int) := by omega
    have hr : Hid (ReadCode x [] false) := read_long h400
    go_enter Tryz.func28, Tryz.ntmps28
    go_wp2_with fail
    go_ret2
    exact ⟨.inr ⟨_, hr.out, rfl⟩, Below.refl _ _⟩
  by_cases hy : ∃ y, x = y ++ [10]
  · obtain ⟨y, rfl⟩ := hy
    exact stepsOf_lines y w (by simp at h400; omega) hT hE hM
  · have hy' : ∀ y, x ≠ y ++ [10] := fun y e => hy ⟨y, e⟩
    have g1 : ¬ (400 : Int) < (x.length : Int) := by omega
    have hr : Hid (ReadCode x [] false) := read_no_nl hy'
    have hcs : Hid (∀ W, Calls Tryz.prog 52 #[.string ⟨x.toArray⟩, .string ⟨#[10]⟩] W fun e w' => e = .returned (.tuple #[.string ⟨x.toArray⟩, .bool false]) ∧ w' = W) := fun W => cutSuffix_no x W (by omega) hy'
    clear hy hy'
    go_enter Tryz.func28, Tryz.ntmps28
    go_wp2_with fail
    refine (hcs.out _).mono ?_
    rintro e w1 ⟨rfl, rfl⟩
    go_wp2_with fail
    go_ret2
    exact ⟨.inr ⟨_, hr.out, rfl⟩, Below.refl _ _⟩
end Go.Proofs.YtekmjgkjpdhedaaGreatDoor
namespace Go.Proofs.YtekmjgkjpdhedaaGreatDoor
open Go.ChangeShapes Go.WideShapes Go.ChangeAt Go.RowKit Go.Joins
/-- the library's variable holds the type of errors -/
def EType (w : World) : Prop := w.cell? ⟨0, 0, none⟩ = some (.iface 120 (.agg #[.pointer (some ⟨9, 46, none⟩)]))
theorem EType.below {w w' : World} (h : EType w) (hb : Below w.heap.size w w') : EType w' :=
  (hb.cell (p := ⟨0, 0, none⟩) (World.block_lt_of_cell? _ _ h)).trans h
set_option maxRecDepth 20000 in
set_option maxHeartbeats 2000000 in
theorem implCodeRead_any (x : List UInt8) (w : World) (hT : Tab w) (hE : Errs w) (hM : Max w) (hG : EType w) :
    Calls Tryz.prog 10 #[.string ⟨x.toArray⟩] w fun e w' => ∃ C v ok, e = .returned (.tuple #[v, .bool ok]) ∧ ReadCode x C ok ∧ OwnsO w' w.heap.size v C ∧ Below w.heap.size w w' := by
  go_enter Tryz.func10, Tryz.ntmps10
  go_wp2_with fail
  refine (stepsOf_any x _ hT hE hM).mono ?_
  rintro e w1 ⟨h, hb1⟩
  have hz1 := hb1.size
  rcases h with ⟨C, v, hr, rfl, hO⟩ | ⟨s, hr, rfl⟩
  · replace hr : Hid (ReadCode x C true) := hr
    go_wp2_with fail
    refine (ErrAs.as_nil _ _).mono ?_
    rintro e w2 ⟨rfl, rfl⟩
    go_wp2_with fail
    go_ret2
    exact ⟨C, v, true, rfl, hr.out, OwnsO.below hO ((Below.refl _ _).alloc (Nat.le_refl _) _), hb1.alloc hz1 _⟩
  · replace hr : Hid (ReadCode x [] false) := hr
    have hG1 : EType (w1.alloc (.cells #[.string ⟨#[]⟩] 50)) := (hG.below hb1).below ((Below.refl _ _).alloc (Nat.le_refl _) _)
    go_wp2_with fail
    refine (ErrAs.as_hit s ⟨w1.heap.size, 0, none⟩ (.string ⟨#[]⟩) _ hG1 (by simp) (by simp)).mono ?_
    rintro e w2 ⟨rfl, hw2⟩
    have hb2 : Below w.heap.size w w2 := by
      rw [hw2]
      exact (((((hb1.alloc hz1 _).alloc (by simp; omega) _).alloc (by simp; omega) _).alloc (by simp; omega) _).alloc (by simp; omega) _).setCell hz1 _
    clear hw2
    go_wp2_with fail
    go_ret2
    exact ⟨[], _, false, rfl, hr.out, ownsO_nil _ _, hb2⟩
theorem ReadCode.one {x : List UInt8} {C D : List OpV} {ok ok' : Bool} (h : ReadCode x C ok) (h' : ReadCode x D ok') : D = C ∧ ok' = ok := by
  rcases h' with ⟨e', o', t'⟩ | ⟨e', o', n'⟩
  · obtain ⟨a, b⟩ := h.of_code o' t'
    exact ⟨b.symm, e'.trans a.symm⟩
  · rcases h with ⟨e, o, t⟩ | ⟨e, o, n⟩
    · exact absurd t (n' _ o)
    · exact ⟨o'.trans o.symm, e'.trans e.symm⟩
end Go.Proofs.YtekmjgkjpdhedaaGreatDoor
