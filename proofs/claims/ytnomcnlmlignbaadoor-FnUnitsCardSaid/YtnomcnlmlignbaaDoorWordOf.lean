/- ParseUnit, the model's and the program's, and the walk of FnExactParseUnit. -/
import Derived.Test.YtnomcnlmlignbaaDoorWord
import Derived.Lib.Strings
namespace Go.Proofs.YtnomcnlmlignbaaDoor
open Go.RowKit
set_option linter.unusedVariables false
set_option linter.unusedSimpArgs false
def unitOf (s : ByteArray) : Int :=
  if s = wordS 1 then 1 else if s = wordS 2 then 2 else if s = wordS 3 then 3 else if s = wordS 4 then 4 else if s = wordS 5 then 5 else if s = wordS 6 then 6 else if s = wordS 7 then 7 else if s = wordS 8 then 8 else 0
def isWord (s : ByteArray) : Bool := unitOf s != 0
theorem isl {l : List UInt8} {s : ByteArray} (h : s = ⟨l.toArray⟩) : (l == s.toList) = true := by rw [beq_iff_eq, Lib.toList_data, h]
theorem notl {l : List UInt8} {s : ByteArray} (h : s ≠ ⟨l.toArray⟩) : (l == s.toList) = false := by
  rw [beq_eq_false_iff_ne, Lib.toList_data]
  exact fun e => h (by rw [e])
theorem unitOf_none {s : ByteArray} (h : ∀ j : Int, 1 ≤ j → j ≤ 8 → s ≠ wordS j) : unitOf s = 0 := by
  unfold unitOf
  rw [if_neg (h 1 (by omega) (by omega)), if_neg (h 2 (by omega) (by omega)), if_neg (h 3 (by omega) (by omega)), if_neg (h 4 (by omega) (by omega)), if_neg (h 5 (by omega) (by omega)), if_neg (h 6 (by omega) (by omega)), if_neg (h 7 (by omega) (by omega)), if_neg (h 8 (by omega) (by omega))]

set_option maxRecDepth 100000 in
set_option maxHeartbeats 4000000 in
theorem implWordOf_any (s : ByteArray) (w : World) (ht : UTab w) :
    Calls Tryd.prog 26 #[.string s] w fun e w' => e = .returned (.tuple #[.int .i64 (unitOf s), .bool (isWord s)]) ∧ Below w.heap.size w w' := by
  obtain ⟨t0, hb0⟩ := ht
  go_enter Tryd.func26, Tryd.ntmps26
  go_wp2_with (refine wpList_load_row rfl 106 (.global 0) rfl 0 rfl t0 unitTableCells.toArray (0, 0) _ hb0 Tryd.underlying106 rfl (by kernel_rfl) ?_)
  go_loopw [5, 7] (fun p i wr => ∃ k : Nat, k ≤ 8 ∧ i = .int .i64 k ∧ (∀ j : Int, 1 ≤ j → j ≤ (k : Int) → s ≠ wordS j) ∧ Below w.heap.size w wr) (fun _ i _ => 8 - (intOf i).toNat)
  case atStart => exact ⟨0, Nat.zero_le _, rfl, fun j h0 h1 => by omega, Below.refl _ _⟩
  case round =>
    obtain ⟨k, hk, rfl, hno, hB⟩ := hrel
    have HB := Lib.hid hB
    have HN := Lib.hid hno
    clear hB hno
    have h9 : k = 0 ∨ k = 1 ∨ k = 2 ∨ k = 3 ∨ k = 4 ∨ k = 5 ∨ k = 6 ∨ k = 7 ∨ k = 8 := by omega
    rcases h9 with rfl | rfl | rfl | rfl | rfl | rfl | rfl | rfl | rfl
    · have HI : ∀ W : World, (Instr.index 106 (.agg unitTableCells.toArray) (.int .i64 0)).run Tryd.prog W = .ok (.agg #[.int .i64 1, .int .i64 1, .string ⟨#[67]⟩, .int .i64 18, .int .i64 0]) W := fun _ => by kernel_rfl
      by_cases hu : s = wordS 1
      · have hq : (([67] : List UInt8) == s.toList) = true := isl hu
        have R := Lib.hid (show Value.tuple #[.int .i64 (unitOf s), .bool (isWord s)] = .tuple #[.int .i64 1, .bool true] by rw [hu]; rfl)
        clear hu
        have HB2 := Lib.hid (HB.out.alloc HB.out.size (.cells #[.int .i64 1, .int .i64 1, .string ⟨#[67]⟩, .int .i64 18, .int .i64 0] 100))
        go_wp2
        go_ret2
        exact ⟨by rw [R.out]; rfl, HB2.out⟩
      · have hne : (([67] : List UInt8) == s.toList) = false := notl hu
        have HNE := Lib.hid hu
        clear hu
        go_wp2
        go_roundw
        case rel => exact ⟨1, by omega, rfl, fun j h0 h1 => by
          by_cases e : j = 1
          · rw [e]; exact HNE.out
          · exact HN.out j h0 (by omega), HB.out.alloc HB.out.size _⟩
        case measure => decide
    · have HI : ∀ W : World, (Instr.index 106 (.agg unitTableCells.toArray) (.int .i64 1)).run Tryd.prog W = .ok (.agg #[.int .i64 2, .int .i64 1, .string ⟨#[70]⟩, .int .i64 10, .int .i64 (-3200)]) W := fun _ => by kernel_rfl
      by_cases hu : s = wordS 2
      · have hq : (([70] : List UInt8) == s.toList) = true := isl hu
        have R := Lib.hid (show Value.tuple #[.int .i64 (unitOf s), .bool (isWord s)] = .tuple #[.int .i64 2, .bool true] by rw [hu]; rfl)
        clear hu
        have HB2 := Lib.hid (HB.out.alloc HB.out.size (.cells #[.int .i64 2, .int .i64 1, .string ⟨#[70]⟩, .int .i64 10, .int .i64 (-3200)] 100))
        go_wp2
        go_ret2
        exact ⟨by rw [R.out]; rfl, HB2.out⟩
      · have hne : (([70] : List UInt8) == s.toList) = false := notl hu
        have HNE := Lib.hid hu
        clear hu
        go_wp2
        go_roundw
        case rel => exact ⟨2, by omega, rfl, fun j h0 h1 => by
          by_cases e : j = 2
          · rw [e]; exact HNE.out
          · exact HN.out j h0 (by omega), HB.out.alloc HB.out.size _⟩
        case measure => decide
    · have HI : ∀ W : World, (Instr.index 106 (.agg unitTableCells.toArray) (.int .i64 2)).run Tryd.prog W = .ok (.agg #[.int .i64 3, .int .i64 1, .string ⟨#[75]⟩, .int .i64 18, .int .i64 (-49167)]) W := fun _ => by kernel_rfl
      by_cases hu : s = wordS 3
      · have hq : (([75] : List UInt8) == s.toList) = true := isl hu
        have R := Lib.hid (show Value.tuple #[.int .i64 (unitOf s), .bool (isWord s)] = .tuple #[.int .i64 3, .bool true] by rw [hu]; rfl)
        clear hu
        have HB2 := Lib.hid (HB.out.alloc HB.out.size (.cells #[.int .i64 3, .int .i64 1, .string ⟨#[75]⟩, .int .i64 18, .int .i64 (-49167)] 100))
        go_wp2
        go_ret2
        exact ⟨by rw [R.out]; rfl, HB2.out⟩
      · have hne : (([75] : List UInt8) == s.toList) = false := notl hu
        have HNE := Lib.hid hu
        clear hu
        go_wp2
        go_roundw
        case rel => exact ⟨3, by omega, rfl, fun j h0 h1 => by
          by_cases e : j = 3
          · rw [e]; exact HNE.out
          · exact HN.out j h0 (by omega), HB.out.alloc HB.out.size _⟩
        case measure => decide
    · have HI : ∀ W : World, (Instr.index 106 (.agg unitTableCells.toArray) (.int .i64 3)).run Tryd.prog W = .ok (.agg #[.int .i64 4, .int .i64 2, .string ⟨#[109, 47, 115]⟩, .int .i64 900, .int .i64 0]) W := fun _ => by kernel_rfl
      by_cases hu : s = wordS 4
      · have hq : (([109, 47, 115] : List UInt8) == s.toList) = true := isl hu
        have R := Lib.hid (show Value.tuple #[.int .i64 (unitOf s), .bool (isWord s)] = .tuple #[.int .i64 4, .bool true] by rw [hu]; rfl)
        clear hu
        have HB2 := Lib.hid (HB.out.alloc HB.out.size (.cells #[.int .i64 4, .int .i64 2, .string ⟨#[109, 47, 115]⟩, .int .i64 900, .int .i64 0] 100))
        go_wp2
        go_ret2
        exact ⟨by rw [R.out]; rfl, HB2.out⟩
      · have hne : (([109, 47, 115] : List UInt8) == s.toList) = false := notl hu
        have HNE := Lib.hid hu
        clear hu
        go_wp2
        go_roundw
        case rel => exact ⟨4, by omega, rfl, fun j h0 h1 => by
          by_cases e : j = 4
          · rw [e]; exact HNE.out
          · exact HN.out j h0 (by omega), HB.out.alloc HB.out.size _⟩
        case measure => decide
    · have HI : ∀ W : World, (Instr.index 106 (.agg unitTableCells.toArray) (.int .i64 4)).run Tryd.prog W = .ok (.agg #[.int .i64 5, .int .i64 2, .string ⟨#[107, 116]⟩, .int .i64 463, .int .i64 0]) W := fun _ => by kernel_rfl
      by_cases hu : s = wordS 5
      · have hq : (([107, 116] : List UInt8) == s.toList) = true := isl hu
        have R := Lib.hid (show Value.tuple #[.int .i64 (unitOf s), .bool (isWord s)] = .tuple #[.int .i64 5, .bool true] by rw [hu]; rfl)
        clear hu
        have HB2 := Lib.hid (HB.out.alloc HB.out.size (.cells #[.int .i64 5, .int .i64 2, .string ⟨#[107, 116]⟩, .int .i64 463, .int .i64 0] 100))
        go_wp2
        go_ret2
        exact ⟨by rw [R.out]; rfl, HB2.out⟩
      · have hne : (([107, 116] : List UInt8) == s.toList) = false := notl hu
        have HNE := Lib.hid hu
        clear hu
        go_wp2
        go_roundw
        case rel => exact ⟨5, by omega, rfl, fun j h0 h1 => by
          by_cases e : j = 5
          · rw [e]; exact HNE.out
          · exact HN.out j h0 (by omega), HB.out.alloc HB.out.size _⟩
        case measure => decide
    · have HI : ∀ W : World, (Instr.index 106 (.agg unitTableCells.toArray) (.int .i64 5)).run Tryd.prog W = .ok (.agg #[.int .i64 6, .int .i64 2, .string ⟨#[107, 109, 47, 104]⟩, .int .i64 250, .int .i64 0]) W := fun _ => by kernel_rfl
      by_cases hu : s = wordS 6
      · have hq : (([107, 109, 47, 104] : List UInt8) == s.toList) = true := isl hu
        have R := Lib.hid (show Value.tuple #[.int .i64 (unitOf s), .bool (isWord s)] = .tuple #[.int .i64 6, .bool true] by rw [hu]; rfl)
        clear hu
        have HB2 := Lib.hid (HB.out.alloc HB.out.size (.cells #[.int .i64 6, .int .i64 2, .string ⟨#[107, 109, 47, 104]⟩, .int .i64 250, .int .i64 0] 100))
        go_wp2
        go_ret2
        exact ⟨by rw [R.out]; rfl, HB2.out⟩
      · have hne : (([107, 109, 47, 104] : List UInt8) == s.toList) = false := notl hu
        have HNE := Lib.hid hu
        clear hu
        go_wp2
        go_roundw
        case rel => exact ⟨6, by omega, rfl, fun j h0 h1 => by
          by_cases e : j = 6
          · rw [e]; exact HNE.out
          · exact HN.out j h0 (by omega), HB.out.alloc HB.out.size _⟩
        case measure => decide
    · have HI : ∀ W : World, (Instr.index 106 (.agg unitTableCells.toArray) (.int .i64 6)).run Tryd.prog W = .ok (.agg #[.int .i64 7, .int .i64 3, .string ⟨#[109, 109]⟩, .int .i64 5, .int .i64 0]) W := fun _ => by kernel_rfl
      by_cases hu : s = wordS 7
      · have hq : (([109, 109] : List UInt8) == s.toList) = true := isl hu
        have R := Lib.hid (show Value.tuple #[.int .i64 (unitOf s), .bool (isWord s)] = .tuple #[.int .i64 7, .bool true] by rw [hu]; rfl)
        clear hu
        have HB2 := Lib.hid (HB.out.alloc HB.out.size (.cells #[.int .i64 7, .int .i64 3, .string ⟨#[109, 109]⟩, .int .i64 5, .int .i64 0] 100))
        go_wp2
        go_ret2
        exact ⟨by rw [R.out]; rfl, HB2.out⟩
      · have hne : (([109, 109] : List UInt8) == s.toList) = false := notl hu
        have HNE := Lib.hid hu
        clear hu
        go_wp2
        go_roundw
        case rel => exact ⟨7, by omega, rfl, fun j h0 h1 => by
          by_cases e : j = 7
          · rw [e]; exact HNE.out
          · exact HN.out j h0 (by omega), HB.out.alloc HB.out.size _⟩
        case measure => decide
    · have HI : ∀ W : World, (Instr.index 106 (.agg unitTableCells.toArray) (.int .i64 7)).run Tryd.prog W = .ok (.agg #[.int .i64 8, .int .i64 3, .string ⟨#[105, 110]⟩, .int .i64 127, .int .i64 0]) W := fun _ => by kernel_rfl
      by_cases hu : s = wordS 8
      · have hq : (([105, 110] : List UInt8) == s.toList) = true := isl hu
        have R := Lib.hid (show Value.tuple #[.int .i64 (unitOf s), .bool (isWord s)] = .tuple #[.int .i64 8, .bool true] by rw [hu]; rfl)
        clear hu
        have HB2 := Lib.hid (HB.out.alloc HB.out.size (.cells #[.int .i64 8, .int .i64 3, .string ⟨#[105, 110]⟩, .int .i64 127, .int .i64 0] 100))
        go_wp2
        go_ret2
        exact ⟨by rw [R.out]; rfl, HB2.out⟩
      · have hne : (([105, 110] : List UInt8) == s.toList) = false := notl hu
        have HNE := Lib.hid hu
        clear hu
        go_wp2
        go_roundw
        case rel => exact ⟨8, by omega, rfl, fun j h0 h1 => by
          by_cases e : j = 8
          · rw [e]; exact HNE.out
          · exact HN.out j h0 (by omega), HB.out.alloc HB.out.size _⟩
        case measure => decide
    · have hz := unitOf_none (s := s) (fun j h0 h1 => HN.out j h0 (by omega))
      have hb : isWord s = false := by unfold isWord; rw [hz]; rfl
      have R := Lib.hid (show Value.tuple #[.int .i64 (unitOf s), .bool (isWord s)] = .tuple #[.int .i64 0, .bool false] by rw [hz, hb])
      clear hz hb
      go_wp2
      go_ret2
      exact ⟨by rw [R.out]; rfl, HB.out⟩

set_option maxRecDepth 100000 in
set_option maxHeartbeats 4000000 in
theorem specWordOf_any (s : ByteArray) (w : World) :
    Calls Tryd.prog 82 #[.string s] w fun e w' => e = .returned (.tuple #[.int .i64 (unitOf s), .bool (isWord s)]) ∧ Below w.heap.size w w' := by
  have HW := Lib.hid (fun W => words_any W)
  go_enter Tryd.func82, Tryd.ntmps82
  go_wp2
  go_loopw [4] (fun i wr => ∃ k : Nat, 1 ≤ k ∧ k ≤ 9 ∧ i = .int .i64 k ∧ (∀ j : Int, 1 ≤ j → j < (k : Int) → s ≠ wordS j) ∧ Below w.heap.size w wr) (fun i _ => 9 - (intOf i).toNat)
  case atStart => exact ⟨1, by omega, by omega, rfl, fun j h0 h1 => by omega, Below.refl _ _⟩
  case round =>
    obtain ⟨k, hk0, hk, rfl, hno, hB⟩ := hrel
    have HB := Lib.hid hB
    have HN := Lib.hid hno
    clear hB hno
    have HC := Lib.hid (words_cell wr)
    have h9 : k = 1 ∨ k = 2 ∨ k = 3 ∨ k = 4 ∨ k = 5 ∨ k = 6 ∨ k = 7 ∨ k = 8 ∨ k = 9 := by omega
    rcases h9 with rfl | rfl | rfl | rfl | rfl | rfl | rfl | rfl | rfl
    · by_cases hu : s = wordS 1
      · have hq : (([67] : List UInt8) == s.toList) = true := isl hu
        have R := Lib.hid (show Value.tuple #[.int .i64 (unitOf s), .bool (isWord s)] = .tuple #[.int .i64 1, .bool true] by rw [hu]; rfl)
        clear hu
        go_wp2_with fail
        refine (HW.out _).mono ?_
        rintro e w1 ⟨rfl, rfl⟩
        have c1 : (wr.alloc (.cells wordsCells 9)).cell? ⟨wr.heap.size, 1, none⟩ = some (.string ⟨#[67]⟩) := HC.out 1
        have HB2 := Lib.hid (HB.out.alloc HB.out.size (.cells wordsCells 9))
        clear HC
        generalize wr.alloc (.cells wordsCells 9) = w9 at *
        go_wp2
        go_ret2
        exact ⟨by rw [R.out]; rfl, HB2.out⟩
      · have hne : (([67] : List UInt8) == s.toList) = false := notl hu
        have HNE := Lib.hid hu
        clear hu
        go_wp2_with fail
        refine (HW.out _).mono ?_
        rintro e w1 ⟨rfl, rfl⟩
        have c1 : (wr.alloc (.cells wordsCells 9)).cell? ⟨wr.heap.size, 1, none⟩ = some (.string ⟨#[67]⟩) := HC.out 1
        have HB2 := Lib.hid (HB.out.alloc HB.out.size (.cells wordsCells 9))
        clear HC
        generalize wr.alloc (.cells wordsCells 9) = w9 at *
        go_wp2
        go_roundw
        case rel => exact ⟨2, by omega, by omega, rfl, fun j h0 h1 => by
          by_cases e : j = 1
          · rw [e]; exact HNE.out
          · exact HN.out j h0 (by omega), HB2.out⟩
        case measure => decide
    · by_cases hu : s = wordS 2
      · have hq : (([70] : List UInt8) == s.toList) = true := isl hu
        have R := Lib.hid (show Value.tuple #[.int .i64 (unitOf s), .bool (isWord s)] = .tuple #[.int .i64 2, .bool true] by rw [hu]; rfl)
        clear hu
        go_wp2_with fail
        refine (HW.out _).mono ?_
        rintro e w1 ⟨rfl, rfl⟩
        have c1 : (wr.alloc (.cells wordsCells 9)).cell? ⟨wr.heap.size, 2, none⟩ = some (.string ⟨#[70]⟩) := HC.out 2
        have HB2 := Lib.hid (HB.out.alloc HB.out.size (.cells wordsCells 9))
        clear HC
        generalize wr.alloc (.cells wordsCells 9) = w9 at *
        go_wp2
        go_ret2
        exact ⟨by rw [R.out]; rfl, HB2.out⟩
      · have hne : (([70] : List UInt8) == s.toList) = false := notl hu
        have HNE := Lib.hid hu
        clear hu
        go_wp2_with fail
        refine (HW.out _).mono ?_
        rintro e w1 ⟨rfl, rfl⟩
        have c1 : (wr.alloc (.cells wordsCells 9)).cell? ⟨wr.heap.size, 2, none⟩ = some (.string ⟨#[70]⟩) := HC.out 2
        have HB2 := Lib.hid (HB.out.alloc HB.out.size (.cells wordsCells 9))
        clear HC
        generalize wr.alloc (.cells wordsCells 9) = w9 at *
        go_wp2
        go_roundw
        case rel => exact ⟨3, by omega, by omega, rfl, fun j h0 h1 => by
          by_cases e : j = 2
          · rw [e]; exact HNE.out
          · exact HN.out j h0 (by omega), HB2.out⟩
        case measure => decide
    · by_cases hu : s = wordS 3
      · have hq : (([75] : List UInt8) == s.toList) = true := isl hu
        have R := Lib.hid (show Value.tuple #[.int .i64 (unitOf s), .bool (isWord s)] = .tuple #[.int .i64 3, .bool true] by rw [hu]; rfl)
        clear hu
        go_wp2_with fail
        refine (HW.out _).mono ?_
        rintro e w1 ⟨rfl, rfl⟩
        have c1 : (wr.alloc (.cells wordsCells 9)).cell? ⟨wr.heap.size, 3, none⟩ = some (.string ⟨#[75]⟩) := HC.out 3
        have HB2 := Lib.hid (HB.out.alloc HB.out.size (.cells wordsCells 9))
        clear HC
        generalize wr.alloc (.cells wordsCells 9) = w9 at *
        go_wp2
        go_ret2
        exact ⟨by rw [R.out]; rfl, HB2.out⟩
      · have hne : (([75] : List UInt8) == s.toList) = false := notl hu
        have HNE := Lib.hid hu
        clear hu
        go_wp2_with fail
        refine (HW.out _).mono ?_
        rintro e w1 ⟨rfl, rfl⟩
        have c1 : (wr.alloc (.cells wordsCells 9)).cell? ⟨wr.heap.size, 3, none⟩ = some (.string ⟨#[75]⟩) := HC.out 3
        have HB2 := Lib.hid (HB.out.alloc HB.out.size (.cells wordsCells 9))
        clear HC
        generalize wr.alloc (.cells wordsCells 9) = w9 at *
        go_wp2
        go_roundw
        case rel => exact ⟨4, by omega, by omega, rfl, fun j h0 h1 => by
          by_cases e : j = 3
          · rw [e]; exact HNE.out
          · exact HN.out j h0 (by omega), HB2.out⟩
        case measure => decide
    · by_cases hu : s = wordS 4
      · have hq : (([109, 47, 115] : List UInt8) == s.toList) = true := isl hu
        have R := Lib.hid (show Value.tuple #[.int .i64 (unitOf s), .bool (isWord s)] = .tuple #[.int .i64 4, .bool true] by rw [hu]; rfl)
        clear hu
        go_wp2_with fail
        refine (HW.out _).mono ?_
        rintro e w1 ⟨rfl, rfl⟩
        have c1 : (wr.alloc (.cells wordsCells 9)).cell? ⟨wr.heap.size, 4, none⟩ = some (.string ⟨#[109, 47, 115]⟩) := HC.out 4
        have HB2 := Lib.hid (HB.out.alloc HB.out.size (.cells wordsCells 9))
        clear HC
        generalize wr.alloc (.cells wordsCells 9) = w9 at *
        go_wp2
        go_ret2
        exact ⟨by rw [R.out]; rfl, HB2.out⟩
      · have hne : (([109, 47, 115] : List UInt8) == s.toList) = false := notl hu
        have HNE := Lib.hid hu
        clear hu
        go_wp2_with fail
        refine (HW.out _).mono ?_
        rintro e w1 ⟨rfl, rfl⟩
        have c1 : (wr.alloc (.cells wordsCells 9)).cell? ⟨wr.heap.size, 4, none⟩ = some (.string ⟨#[109, 47, 115]⟩) := HC.out 4
        have HB2 := Lib.hid (HB.out.alloc HB.out.size (.cells wordsCells 9))
        clear HC
        generalize wr.alloc (.cells wordsCells 9) = w9 at *
        go_wp2
        go_roundw
        case rel => exact ⟨5, by omega, by omega, rfl, fun j h0 h1 => by
          by_cases e : j = 4
          · rw [e]; exact HNE.out
          · exact HN.out j h0 (by omega), HB2.out⟩
        case measure => decide
    · by_cases hu : s = wordS 5
      · have hq : (([107, 116] : List UInt8) == s.toList) = true := isl hu
        have R := Lib.hid (show Value.tuple #[.int .i64 (unitOf s), .bool (isWord s)] = .tuple #[.int .i64 5, .bool true] by rw [hu]; rfl)
        clear hu
        go_wp2_with fail
        refine (HW.out _).mono ?_
        rintro e w1 ⟨rfl, rfl⟩
        have c1 : (wr.alloc (.cells wordsCells 9)).cell? ⟨wr.heap.size, 5, none⟩ = some (.string ⟨#[107, 116]⟩) := HC.out 5
        have HB2 := Lib.hid (HB.out.alloc HB.out.size (.cells wordsCells 9))
        clear HC
        generalize wr.alloc (.cells wordsCells 9) = w9 at *
        go_wp2
        go_ret2
        exact ⟨by rw [R.out]; rfl, HB2.out⟩
      · have hne : (([107, 116] : List UInt8) == s.toList) = false := notl hu
        have HNE := Lib.hid hu
        clear hu
        go_wp2_with fail
        refine (HW.out _).mono ?_
        rintro e w1 ⟨rfl, rfl⟩
        have c1 : (wr.alloc (.cells wordsCells 9)).cell? ⟨wr.heap.size, 5, none⟩ = some (.string ⟨#[107, 116]⟩) := HC.out 5
        have HB2 := Lib.hid (HB.out.alloc HB.out.size (.cells wordsCells 9))
        clear HC
        generalize wr.alloc (.cells wordsCells 9) = w9 at *
        go_wp2
        go_roundw
        case rel => exact ⟨6, by omega, by omega, rfl, fun j h0 h1 => by
          by_cases e : j = 5
          · rw [e]; exact HNE.out
          · exact HN.out j h0 (by omega), HB2.out⟩
        case measure => decide
    · by_cases hu : s = wordS 6
      · have hq : (([107, 109, 47, 104] : List UInt8) == s.toList) = true := isl hu
        have R := Lib.hid (show Value.tuple #[.int .i64 (unitOf s), .bool (isWord s)] = .tuple #[.int .i64 6, .bool true] by rw [hu]; rfl)
        clear hu
        go_wp2_with fail
        refine (HW.out _).mono ?_
        rintro e w1 ⟨rfl, rfl⟩
        have c1 : (wr.alloc (.cells wordsCells 9)).cell? ⟨wr.heap.size, 6, none⟩ = some (.string ⟨#[107, 109, 47, 104]⟩) := HC.out 6
        have HB2 := Lib.hid (HB.out.alloc HB.out.size (.cells wordsCells 9))
        clear HC
        generalize wr.alloc (.cells wordsCells 9) = w9 at *
        go_wp2
        go_ret2
        exact ⟨by rw [R.out]; rfl, HB2.out⟩
      · have hne : (([107, 109, 47, 104] : List UInt8) == s.toList) = false := notl hu
        have HNE := Lib.hid hu
        clear hu
        go_wp2_with fail
        refine (HW.out _).mono ?_
        rintro e w1 ⟨rfl, rfl⟩
        have c1 : (wr.alloc (.cells wordsCells 9)).cell? ⟨wr.heap.size, 6, none⟩ = some (.string ⟨#[107, 109, 47, 104]⟩) := HC.out 6
        have HB2 := Lib.hid (HB.out.alloc HB.out.size (.cells wordsCells 9))
        clear HC
        generalize wr.alloc (.cells wordsCells 9) = w9 at *
        go_wp2
        go_roundw
        case rel => exact ⟨7, by omega, by omega, rfl, fun j h0 h1 => by
          by_cases e : j = 6
          · rw [e]; exact HNE.out
          · exact HN.out j h0 (by omega), HB2.out⟩
        case measure => decide
    · by_cases hu : s = wordS 7
      · have hq : (([109, 109] : List UInt8) == s.toList) = true := isl hu
        have R := Lib.hid (show Value.tuple #[.int .i64 (unitOf s), .bool (isWord s)] = .tuple #[.int .i64 7, .bool true] by rw [hu]; rfl)
        clear hu
        go_wp2_with fail
        refine (HW.out _).mono ?_
        rintro e w1 ⟨rfl, rfl⟩
        have c1 : (wr.alloc (.cells wordsCells 9)).cell? ⟨wr.heap.size, 7, none⟩ = some (.string ⟨#[109, 109]⟩) := HC.out 7
        have HB2 := Lib.hid (HB.out.alloc HB.out.size (.cells wordsCells 9))
        clear HC
        generalize wr.alloc (.cells wordsCells 9) = w9 at *
        go_wp2
        go_ret2
        exact ⟨by rw [R.out]; rfl, HB2.out⟩
      · have hne : (([109, 109] : List UInt8) == s.toList) = false := notl hu
        have HNE := Lib.hid hu
        clear hu
        go_wp2_with fail
        refine (HW.out _).mono ?_
        rintro e w1 ⟨rfl, rfl⟩
        have c1 : (wr.alloc (.cells wordsCells 9)).cell? ⟨wr.heap.size, 7, none⟩ = some (.string ⟨#[109, 109]⟩) := HC.out 7
        have HB2 := Lib.hid (HB.out.alloc HB.out.size (.cells wordsCells 9))
        clear HC
        generalize wr.alloc (.cells wordsCells 9) = w9 at *
        go_wp2
        go_roundw
        case rel => exact ⟨8, by omega, by omega, rfl, fun j h0 h1 => by
          by_cases e : j = 7
          · rw [e]; exact HNE.out
          · exact HN.out j h0 (by omega), HB2.out⟩
        case measure => decide
    · by_cases hu : s = wordS 8
      · have hq : (([105, 110] : List UInt8) == s.toList) = true := isl hu
        have R := Lib.hid (show Value.tuple #[.int .i64 (unitOf s), .bool (isWord s)] = .tuple #[.int .i64 8, .bool true] by rw [hu]; rfl)
        clear hu
        go_wp2_with fail
        refine (HW.out _).mono ?_
        rintro e w1 ⟨rfl, rfl⟩
        have c1 : (wr.alloc (.cells wordsCells 9)).cell? ⟨wr.heap.size, 8, none⟩ = some (.string ⟨#[105, 110]⟩) := HC.out 8
        have HB2 := Lib.hid (HB.out.alloc HB.out.size (.cells wordsCells 9))
        clear HC
        generalize wr.alloc (.cells wordsCells 9) = w9 at *
        go_wp2
        go_ret2
        exact ⟨by rw [R.out]; rfl, HB2.out⟩
      · have hne : (([105, 110] : List UInt8) == s.toList) = false := notl hu
        have HNE := Lib.hid hu
        clear hu
        go_wp2_with fail
        refine (HW.out _).mono ?_
        rintro e w1 ⟨rfl, rfl⟩
        have c1 : (wr.alloc (.cells wordsCells 9)).cell? ⟨wr.heap.size, 8, none⟩ = some (.string ⟨#[105, 110]⟩) := HC.out 8
        have HB2 := Lib.hid (HB.out.alloc HB.out.size (.cells wordsCells 9))
        clear HC
        generalize wr.alloc (.cells wordsCells 9) = w9 at *
        go_wp2
        go_roundw
        case rel => exact ⟨9, by omega, by omega, rfl, fun j h0 h1 => by
          by_cases e : j = 8
          · rw [e]; exact HNE.out
          · exact HN.out j h0 (by omega), HB2.out⟩
        case measure => decide
    · have hz := unitOf_none (s := s) (fun j h0 h1 => HN.out j h0 (by omega))
      have hb : isWord s = false := by unfold isWord; rw [hz]; rfl
      have R := Lib.hid (show Value.tuple #[.int .i64 (unitOf s), .bool (isWord s)] = .tuple #[.int .i64 0, .bool false] by rw [hz, hb])
      clear hz hb
      go_wp2
      go_ret2
      exact ⟨by rw [R.out]; rfl, HB.out⟩

end Go.Proofs.YtnomcnlmlignbaaDoor
