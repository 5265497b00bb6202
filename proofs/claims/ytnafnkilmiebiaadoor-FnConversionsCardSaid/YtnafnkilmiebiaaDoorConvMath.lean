/- ConvertTenths, the model's and the program's, and the walk of FnExactConvertTenths. -/
import Derived.Test.YtnafnkilmiebiaaDoorParts
namespace Go.Proofs.YtnafnkilmiebiaaDoor
open Go.RowKit
set_option linter.unusedVariables false
set_option linter.unusedSimpArgs false
def basN (x u : Int) : Int := if u = 2 then (x - 320) * 5 else if u = 3 then 2 * x - 5463 else if u = 5 then x * 1852 else if u = 6 then x * 5 else if u = 8 then x * 127 else x
def basD (u : Int) : Int := if u = 2 then 9 else if u = 3 then 2 else if u = 5 then 3600 else if u = 6 then 18 else if u = 8 then 5 else 1
set_option maxHeartbeats 1000000 in
theorem basic_any (x u : Int) (w : World) (hu : unitB u = true) (h0 : -99999 ≤ x) (h1 : x ≤ 99999) :
    Calls Tryd.prog 39 #[.int .i64 x, .int .i64 u] w fun e w' => e = .returned (.tuple #[.int .i64 (basN x u), .int .i64 (basD u)]) ∧ w = w' := by
  rcases unit_cases hu with rfl | rfl | rfl | rfl | rfl | rfl | rfl | rfl
  all_goals
    clear hu
    go_enter Tryd.func39, Tryd.ntmps39
    go_wp2
    go_ret2
    exact ⟨rfl, rfl⟩

set_option maxHeartbeats 1000000 in
theorem conv_1_1 (x : Int) (w : World) (h0 : -99999 ≤ x) (h1 : x ≤ 99999) :
    Calls Tryd.prog 34 #[.int .i64 x, .int .i64 1, .int .i64 1] w fun e w' => e = .returned (.int .i64 (convZ x 1 1)) ∧ w = w' := by
  have HB := Lib.hid (fun W => basic_any x 1 W (by decide) h0 h1)
  rw [show basN x 1 = x from rfl, show basD 1 = 1 from rfl] at HB
  go_enter Tryd.func34, Tryd.ntmps34
  go_wp2_with fail
  refine (HB.out _).mono ?_
  rintro e w1 ⟨rfl, rfl⟩
  go_wp2_with fail
  refine (specRound_any _ _ _ (by omega) (by omega) (by omega) (by omega)).mono ?_
  rintro e w1 ⟨rfl, rfl⟩
  have R := Lib.hid (show convZ x 1 1 = rdiv (x * 18 + 0 - 0) 18 from rfl)
  go_wp2
  go_ret
  refine ⟨?_, rfl⟩
  rw [R.out]
  refine congrArg (fun z => Ending.returned (.int .i64 z)) ?_
  show rdiv _ _ = rdiv _ _
  unfold rdiv
  split <;> split <;> omega

set_option maxHeartbeats 1000000 in
theorem conv_1_2 (x : Int) (w : World) (h0 : -99999 ≤ x) (h1 : x ≤ 99999) :
    Calls Tryd.prog 34 #[.int .i64 x, .int .i64 1, .int .i64 2] w fun e w' => e = .returned (.int .i64 (convZ x 1 2)) ∧ w = w' := by
  have HB := Lib.hid (fun W => basic_any x 1 W (by decide) h0 h1)
  rw [show basN x 1 = x from rfl, show basD 1 = 1 from rfl] at HB
  go_enter Tryd.func34, Tryd.ntmps34
  go_wp2_with fail
  refine (HB.out _).mono ?_
  rintro e w1 ⟨rfl, rfl⟩
  go_wp2_with fail
  refine (specRound_any _ _ _ (by omega) (by omega) (by omega) (by omega)).mono ?_
  rintro e w1 ⟨rfl, rfl⟩
  have R := Lib.hid (show convZ x 1 2 = rdiv (x * 18 + 0 - (-3200)) 10 from rfl)
  go_wp2
  go_ret
  refine ⟨?_, rfl⟩
  rw [R.out]
  refine congrArg (fun z => Ending.returned (.int .i64 z)) ?_
  show rdiv _ _ = rdiv _ _
  unfold rdiv
  split <;> split <;> omega

set_option maxHeartbeats 1000000 in
theorem conv_1_3 (x : Int) (w : World) (h0 : -99999 ≤ x) (h1 : x ≤ 99999) :
    Calls Tryd.prog 34 #[.int .i64 x, .int .i64 1, .int .i64 3] w fun e w' => e = .returned (.int .i64 (convZ x 1 3)) ∧ w = w' := by
  have HB := Lib.hid (fun W => basic_any x 1 W (by decide) h0 h1)
  rw [show basN x 1 = x from rfl, show basD 1 = 1 from rfl] at HB
  go_enter Tryd.func34, Tryd.ntmps34
  go_wp2_with fail
  refine (HB.out _).mono ?_
  rintro e w1 ⟨rfl, rfl⟩
  go_wp2_with fail
  refine (specRound_any _ _ _ (by omega) (by omega) (by omega) (by omega)).mono ?_
  rintro e w1 ⟨rfl, rfl⟩
  have R := Lib.hid (show convZ x 1 3 = rdiv (x * 18 + 0 - (-49167)) 18 from rfl)
  go_wp2
  go_ret
  refine ⟨?_, rfl⟩
  rw [R.out]
  refine congrArg (fun z => Ending.returned (.int .i64 z)) ?_
  show rdiv _ _ = rdiv _ _
  unfold rdiv
  split <;> split <;> omega

set_option maxHeartbeats 1000000 in
theorem conv_2_1 (x : Int) (w : World) (h0 : -99999 ≤ x) (h1 : x ≤ 99999) :
    Calls Tryd.prog 34 #[.int .i64 x, .int .i64 2, .int .i64 1] w fun e w' => e = .returned (.int .i64 (convZ x 2 1)) ∧ w = w' := by
  have HB := Lib.hid (fun W => basic_any x 2 W (by decide) h0 h1)
  rw [show basN x 2 = (x - 320) * 5 from rfl, show basD 2 = 9 from rfl] at HB
  go_enter Tryd.func34, Tryd.ntmps34
  go_wp2_with fail
  refine (HB.out _).mono ?_
  rintro e w1 ⟨rfl, rfl⟩
  go_wp2_with fail
  refine (specRound_any _ _ _ (by omega) (by omega) (by omega) (by omega)).mono ?_
  rintro e w1 ⟨rfl, rfl⟩
  have R := Lib.hid (show convZ x 2 1 = rdiv (x * 10 + (-3200) - 0) 18 from rfl)
  go_wp2
  go_ret
  refine ⟨?_, rfl⟩
  rw [R.out]
  refine congrArg (fun z => Ending.returned (.int .i64 z)) ?_
  show rdiv _ _ = rdiv _ _
  unfold rdiv
  split <;> split <;> omega

set_option maxHeartbeats 1000000 in
theorem conv_2_2 (x : Int) (w : World) (h0 : -99999 ≤ x) (h1 : x ≤ 99999) :
    Calls Tryd.prog 34 #[.int .i64 x, .int .i64 2, .int .i64 2] w fun e w' => e = .returned (.int .i64 (convZ x 2 2)) ∧ w = w' := by
  have HB := Lib.hid (fun W => basic_any x 2 W (by decide) h0 h1)
  rw [show basN x 2 = (x - 320) * 5 from rfl, show basD 2 = 9 from rfl] at HB
  go_enter Tryd.func34, Tryd.ntmps34
  go_wp2_with fail
  refine (HB.out _).mono ?_
  rintro e w1 ⟨rfl, rfl⟩
  go_wp2_with fail
  refine (specRound_any _ _ _ (by omega) (by omega) (by omega) (by omega)).mono ?_
  rintro e w1 ⟨rfl, rfl⟩
  have R := Lib.hid (show convZ x 2 2 = rdiv (x * 10 + (-3200) - (-3200)) 10 from rfl)
  go_wp2
  go_ret
  refine ⟨?_, rfl⟩
  rw [R.out]
  refine congrArg (fun z => Ending.returned (.int .i64 z)) ?_
  show rdiv _ _ = rdiv _ _
  unfold rdiv
  split <;> split <;> omega

set_option maxHeartbeats 1000000 in
theorem conv_2_3 (x : Int) (w : World) (h0 : -99999 ≤ x) (h1 : x ≤ 99999) :
    Calls Tryd.prog 34 #[.int .i64 x, .int .i64 2, .int .i64 3] w fun e w' => e = .returned (.int .i64 (convZ x 2 3)) ∧ w = w' := by
  have HB := Lib.hid (fun W => basic_any x 2 W (by decide) h0 h1)
  rw [show basN x 2 = (x - 320) * 5 from rfl, show basD 2 = 9 from rfl] at HB
  go_enter Tryd.func34, Tryd.ntmps34
  go_wp2_with fail
  refine (HB.out _).mono ?_
  rintro e w1 ⟨rfl, rfl⟩
  go_wp2_with fail
  refine (specRound_any _ _ _ (by omega) (by omega) (by omega) (by omega)).mono ?_
  rintro e w1 ⟨rfl, rfl⟩
  have R := Lib.hid (show convZ x 2 3 = rdiv (x * 10 + (-3200) - (-49167)) 18 from rfl)
  go_wp2
  go_ret
  refine ⟨?_, rfl⟩
  rw [R.out]
  refine congrArg (fun z => Ending.returned (.int .i64 z)) ?_
  show rdiv _ _ = rdiv _ _
  unfold rdiv
  split <;> split <;> omega

set_option maxHeartbeats 1000000 in
theorem conv_3_1 (x : Int) (w : World) (h0 : -99999 ≤ x) (h1 : x ≤ 99999) :
    Calls Tryd.prog 34 #[.int .i64 x, .int .i64 3, .int .i64 1] w fun e w' => e = .returned (.int .i64 (convZ x 3 1)) ∧ w = w' := by
  have HB := Lib.hid (fun W => basic_any x 3 W (by decide) h0 h1)
  rw [show basN x 3 = 2 * x - 5463 from rfl, show basD 3 = 2 from rfl] at HB
  go_enter Tryd.func34, Tryd.ntmps34
  go_wp2_with fail
  refine (HB.out _).mono ?_
  rintro e w1 ⟨rfl, rfl⟩
  go_wp2_with fail
  refine (specRound_any _ _ _ (by omega) (by omega) (by omega) (by omega)).mono ?_
  rintro e w1 ⟨rfl, rfl⟩
  have R := Lib.hid (show convZ x 3 1 = rdiv (x * 18 + (-49167) - 0) 18 from rfl)
  go_wp2
  go_ret
  refine ⟨?_, rfl⟩
  rw [R.out]
  refine congrArg (fun z => Ending.returned (.int .i64 z)) ?_
  show rdiv _ _ = rdiv _ _
  unfold rdiv
  split <;> split <;> omega

set_option maxHeartbeats 1000000 in
theorem conv_3_2 (x : Int) (w : World) (h0 : -99999 ≤ x) (h1 : x ≤ 99999) :
    Calls Tryd.prog 34 #[.int .i64 x, .int .i64 3, .int .i64 2] w fun e w' => e = .returned (.int .i64 (convZ x 3 2)) ∧ w = w' := by
  have HB := Lib.hid (fun W => basic_any x 3 W (by decide) h0 h1)
  rw [show basN x 3 = 2 * x - 5463 from rfl, show basD 3 = 2 from rfl] at HB
  go_enter Tryd.func34, Tryd.ntmps34
  go_wp2_with fail
  refine (HB.out _).mono ?_
  rintro e w1 ⟨rfl, rfl⟩
  go_wp2_with fail
  refine (specRound_any _ _ _ (by omega) (by omega) (by omega) (by omega)).mono ?_
  rintro e w1 ⟨rfl, rfl⟩
  have R := Lib.hid (show convZ x 3 2 = rdiv (x * 18 + (-49167) - (-3200)) 10 from rfl)
  go_wp2
  go_ret
  refine ⟨?_, rfl⟩
  rw [R.out]
  refine congrArg (fun z => Ending.returned (.int .i64 z)) ?_
  show rdiv _ _ = rdiv _ _
  unfold rdiv
  split <;> split <;> omega

set_option maxHeartbeats 1000000 in
theorem conv_3_3 (x : Int) (w : World) (h0 : -99999 ≤ x) (h1 : x ≤ 99999) :
    Calls Tryd.prog 34 #[.int .i64 x, .int .i64 3, .int .i64 3] w fun e w' => e = .returned (.int .i64 (convZ x 3 3)) ∧ w = w' := by
  have HB := Lib.hid (fun W => basic_any x 3 W (by decide) h0 h1)
  rw [show basN x 3 = 2 * x - 5463 from rfl, show basD 3 = 2 from rfl] at HB
  go_enter Tryd.func34, Tryd.ntmps34
  go_wp2_with fail
  refine (HB.out _).mono ?_
  rintro e w1 ⟨rfl, rfl⟩
  go_wp2_with fail
  refine (specRound_any _ _ _ (by omega) (by omega) (by omega) (by omega)).mono ?_
  rintro e w1 ⟨rfl, rfl⟩
  have R := Lib.hid (show convZ x 3 3 = rdiv (x * 18 + (-49167) - (-49167)) 18 from rfl)
  go_wp2
  go_ret
  refine ⟨?_, rfl⟩
  rw [R.out]
  refine congrArg (fun z => Ending.returned (.int .i64 z)) ?_
  show rdiv _ _ = rdiv _ _
  unfold rdiv
  split <;> split <;> omega

set_option maxHeartbeats 1000000 in
theorem conv_4_4 (x : Int) (w : World) (h0 : -99999 ≤ x) (h1 : x ≤ 99999) :
    Calls Tryd.prog 34 #[.int .i64 x, .int .i64 4, .int .i64 4] w fun e w' => e = .returned (.int .i64 (convZ x 4 4)) ∧ w = w' := by
  have HB := Lib.hid (fun W => basic_any x 4 W (by decide) h0 h1)
  rw [show basN x 4 = x from rfl, show basD 4 = 1 from rfl] at HB
  go_enter Tryd.func34, Tryd.ntmps34
  go_wp2_with fail
  refine (HB.out _).mono ?_
  rintro e w1 ⟨rfl, rfl⟩
  go_wp2_with fail
  refine (specRound_any _ _ _ (by omega) (by omega) (by omega) (by omega)).mono ?_
  rintro e w1 ⟨rfl, rfl⟩
  have R := Lib.hid (show convZ x 4 4 = rdiv (x * 900 + 0 - 0) 900 from rfl)
  go_wp2
  go_ret
  refine ⟨?_, rfl⟩
  rw [R.out]
  refine congrArg (fun z => Ending.returned (.int .i64 z)) ?_
  show rdiv _ _ = rdiv _ _
  unfold rdiv
  split <;> split <;> omega

set_option maxHeartbeats 1000000 in
theorem conv_4_5 (x : Int) (w : World) (h0 : -99999 ≤ x) (h1 : x ≤ 99999) :
    Calls Tryd.prog 34 #[.int .i64 x, .int .i64 4, .int .i64 5] w fun e w' => e = .returned (.int .i64 (convZ x 4 5)) ∧ w = w' := by
  have HB := Lib.hid (fun W => basic_any x 4 W (by decide) h0 h1)
  rw [show basN x 4 = x from rfl, show basD 4 = 1 from rfl] at HB
  go_enter Tryd.func34, Tryd.ntmps34
  go_wp2_with fail
  refine (HB.out _).mono ?_
  rintro e w1 ⟨rfl, rfl⟩
  go_wp2_with fail
  refine (specRound_any _ _ _ (by omega) (by omega) (by omega) (by omega)).mono ?_
  rintro e w1 ⟨rfl, rfl⟩
  have R := Lib.hid (show convZ x 4 5 = rdiv (x * 900 + 0 - 0) 463 from rfl)
  go_wp2
  go_ret
  refine ⟨?_, rfl⟩
  rw [R.out]
  refine congrArg (fun z => Ending.returned (.int .i64 z)) ?_
  show rdiv _ _ = rdiv _ _
  unfold rdiv
  split <;> split <;> omega

set_option maxHeartbeats 1000000 in
theorem conv_4_6 (x : Int) (w : World) (h0 : -99999 ≤ x) (h1 : x ≤ 99999) :
    Calls Tryd.prog 34 #[.int .i64 x, .int .i64 4, .int .i64 6] w fun e w' => e = .returned (.int .i64 (convZ x 4 6)) ∧ w = w' := by
  have HB := Lib.hid (fun W => basic_any x 4 W (by decide) h0 h1)
  rw [show basN x 4 = x from rfl, show basD 4 = 1 from rfl] at HB
  go_enter Tryd.func34, Tryd.ntmps34
  go_wp2_with fail
  refine (HB.out _).mono ?_
  rintro e w1 ⟨rfl, rfl⟩
  go_wp2_with fail
  refine (specRound_any _ _ _ (by omega) (by omega) (by omega) (by omega)).mono ?_
  rintro e w1 ⟨rfl, rfl⟩
  have R := Lib.hid (show convZ x 4 6 = rdiv (x * 900 + 0 - 0) 250 from rfl)
  go_wp2
  go_ret
  refine ⟨?_, rfl⟩
  rw [R.out]
  refine congrArg (fun z => Ending.returned (.int .i64 z)) ?_
  show rdiv _ _ = rdiv _ _
  unfold rdiv
  split <;> split <;> omega

set_option maxHeartbeats 1000000 in
theorem conv_5_4 (x : Int) (w : World) (h0 : -99999 ≤ x) (h1 : x ≤ 99999) :
    Calls Tryd.prog 34 #[.int .i64 x, .int .i64 5, .int .i64 4] w fun e w' => e = .returned (.int .i64 (convZ x 5 4)) ∧ w = w' := by
  have HB := Lib.hid (fun W => basic_any x 5 W (by decide) h0 h1)
  rw [show basN x 5 = x * 1852 from rfl, show basD 5 = 3600 from rfl] at HB
  go_enter Tryd.func34, Tryd.ntmps34
  go_wp2_with fail
  refine (HB.out _).mono ?_
  rintro e w1 ⟨rfl, rfl⟩
  go_wp2_with fail
  refine (specRound_any _ _ _ (by omega) (by omega) (by omega) (by omega)).mono ?_
  rintro e w1 ⟨rfl, rfl⟩
  have R := Lib.hid (show convZ x 5 4 = rdiv (x * 463 + 0 - 0) 900 from rfl)
  go_wp2
  go_ret
  refine ⟨?_, rfl⟩
  rw [R.out]
  refine congrArg (fun z => Ending.returned (.int .i64 z)) ?_
  show rdiv _ _ = rdiv _ _
  unfold rdiv
  split <;> split <;> omega

set_option maxHeartbeats 1000000 in
theorem conv_5_5 (x : Int) (w : World) (h0 : -99999 ≤ x) (h1 : x ≤ 99999) :
    Calls Tryd.prog 34 #[.int .i64 x, .int .i64 5, .int .i64 5] w fun e w' => e = .returned (.int .i64 (convZ x 5 5)) ∧ w = w' := by
  have HB := Lib.hid (fun W => basic_any x 5 W (by decide) h0 h1)
  rw [show basN x 5 = x * 1852 from rfl, show basD 5 = 3600 from rfl] at HB
  go_enter Tryd.func34, Tryd.ntmps34
  go_wp2_with fail
  refine (HB.out _).mono ?_
  rintro e w1 ⟨rfl, rfl⟩
  go_wp2_with fail
  refine (specRound_any _ _ _ (by omega) (by omega) (by omega) (by omega)).mono ?_
  rintro e w1 ⟨rfl, rfl⟩
  have R := Lib.hid (show convZ x 5 5 = rdiv (x * 463 + 0 - 0) 463 from rfl)
  go_wp2
  go_ret
  refine ⟨?_, rfl⟩
  rw [R.out]
  refine congrArg (fun z => Ending.returned (.int .i64 z)) ?_
  show rdiv _ _ = rdiv _ _
  unfold rdiv
  split <;> split <;> omega

set_option maxHeartbeats 1000000 in
theorem conv_5_6 (x : Int) (w : World) (h0 : -99999 ≤ x) (h1 : x ≤ 99999) :
    Calls Tryd.prog 34 #[.int .i64 x, .int .i64 5, .int .i64 6] w fun e w' => e = .returned (.int .i64 (convZ x 5 6)) ∧ w = w' := by
  have HB := Lib.hid (fun W => basic_any x 5 W (by decide) h0 h1)
  rw [show basN x 5 = x * 1852 from rfl, show basD 5 = 3600 from rfl] at HB
  go_enter Tryd.func34, Tryd.ntmps34
  go_wp2_with fail
  refine (HB.out _).mono ?_
  rintro e w1 ⟨rfl, rfl⟩
  go_wp2_with fail
  refine (specRound_any _ _ _ (by omega) (by omega) (by omega) (by omega)).mono ?_
  rintro e w1 ⟨rfl, rfl⟩
  have R := Lib.hid (show convZ x 5 6 = rdiv (x * 463 + 0 - 0) 250 from rfl)
  go_wp2
  go_ret
  refine ⟨?_, rfl⟩
  rw [R.out]
  refine congrArg (fun z => Ending.returned (.int .i64 z)) ?_
  show rdiv _ _ = rdiv _ _
  unfold rdiv
  split <;> split <;> omega

set_option maxHeartbeats 1000000 in
theorem conv_6_4 (x : Int) (w : World) (h0 : -99999 ≤ x) (h1 : x ≤ 99999) :
    Calls Tryd.prog 34 #[.int .i64 x, .int .i64 6, .int .i64 4] w fun e w' => e = .returned (.int .i64 (convZ x 6 4)) ∧ w = w' := by
  have HB := Lib.hid (fun W => basic_any x 6 W (by decide) h0 h1)
  rw [show basN x 6 = x * 5 from rfl, show basD 6 = 18 from rfl] at HB
  go_enter Tryd.func34, Tryd.ntmps34
  go_wp2_with fail
  refine (HB.out _).mono ?_
  rintro e w1 ⟨rfl, rfl⟩
  go_wp2_with fail
  refine (specRound_any _ _ _ (by omega) (by omega) (by omega) (by omega)).mono ?_
  rintro e w1 ⟨rfl, rfl⟩
  have R := Lib.hid (show convZ x 6 4 = rdiv (x * 250 + 0 - 0) 900 from rfl)
  go_wp2
  go_ret
  refine ⟨?_, rfl⟩
  rw [R.out]
  refine congrArg (fun z => Ending.returned (.int .i64 z)) ?_
  show rdiv _ _ = rdiv _ _
  unfold rdiv
  split <;> split <;> omega

set_option maxHeartbeats 1000000 in
theorem conv_6_5 (x : Int) (w : World) (h0 : -99999 ≤ x) (h1 : x ≤ 99999) :
    Calls Tryd.prog 34 #[.int .i64 x, .int .i64 6, .int .i64 5] w fun e w' => e = .returned (.int .i64 (convZ x 6 5)) ∧ w = w' := by
  have HB := Lib.hid (fun W => basic_any x 6 W (by decide) h0 h1)
  rw [show basN x 6 = x * 5 from rfl, show basD 6 = 18 from rfl] at HB
  go_enter Tryd.func34, Tryd.ntmps34
  go_wp2_with fail
  refine (HB.out _).mono ?_
  rintro e w1 ⟨rfl, rfl⟩
  go_wp2_with fail
  refine (specRound_any _ _ _ (by omega) (by omega) (by omega) (by omega)).mono ?_
  rintro e w1 ⟨rfl, rfl⟩
  have R := Lib.hid (show convZ x 6 5 = rdiv (x * 250 + 0 - 0) 463 from rfl)
  go_wp2
  go_ret
  refine ⟨?_, rfl⟩
  rw [R.out]
  refine congrArg (fun z => Ending.returned (.int .i64 z)) ?_
  show rdiv _ _ = rdiv _ _
  unfold rdiv
  split <;> split <;> omega

set_option maxHeartbeats 1000000 in
theorem conv_6_6 (x : Int) (w : World) (h0 : -99999 ≤ x) (h1 : x ≤ 99999) :
    Calls Tryd.prog 34 #[.int .i64 x, .int .i64 6, .int .i64 6] w fun e w' => e = .returned (.int .i64 (convZ x 6 6)) ∧ w = w' := by
  have HB := Lib.hid (fun W => basic_any x 6 W (by decide) h0 h1)
  rw [show basN x 6 = x * 5 from rfl, show basD 6 = 18 from rfl] at HB
  go_enter Tryd.func34, Tryd.ntmps34
  go_wp2_with fail
  refine (HB.out _).mono ?_
  rintro e w1 ⟨rfl, rfl⟩
  go_wp2_with fail
  refine (specRound_any _ _ _ (by omega) (by omega) (by omega) (by omega)).mono ?_
  rintro e w1 ⟨rfl, rfl⟩
  have R := Lib.hid (show convZ x 6 6 = rdiv (x * 250 + 0 - 0) 250 from rfl)
  go_wp2
  go_ret
  refine ⟨?_, rfl⟩
  rw [R.out]
  refine congrArg (fun z => Ending.returned (.int .i64 z)) ?_
  show rdiv _ _ = rdiv _ _
  unfold rdiv
  split <;> split <;> omega

set_option maxHeartbeats 1000000 in
theorem conv_7_7 (x : Int) (w : World) (h0 : -99999 ≤ x) (h1 : x ≤ 99999) :
    Calls Tryd.prog 34 #[.int .i64 x, .int .i64 7, .int .i64 7] w fun e w' => e = .returned (.int .i64 (convZ x 7 7)) ∧ w = w' := by
  have HB := Lib.hid (fun W => basic_any x 7 W (by decide) h0 h1)
  rw [show basN x 7 = x from rfl, show basD 7 = 1 from rfl] at HB
  go_enter Tryd.func34, Tryd.ntmps34
  go_wp2_with fail
  refine (HB.out _).mono ?_
  rintro e w1 ⟨rfl, rfl⟩
  go_wp2_with fail
  refine (specRound_any _ _ _ (by omega) (by omega) (by omega) (by omega)).mono ?_
  rintro e w1 ⟨rfl, rfl⟩
  have R := Lib.hid (show convZ x 7 7 = rdiv (x * 5 + 0 - 0) 5 from rfl)
  go_wp2
  go_ret
  refine ⟨?_, rfl⟩
  rw [R.out]
  refine congrArg (fun z => Ending.returned (.int .i64 z)) ?_
  show rdiv _ _ = rdiv _ _
  unfold rdiv
  split <;> split <;> omega

set_option maxHeartbeats 1000000 in
theorem conv_7_8 (x : Int) (w : World) (h0 : -99999 ≤ x) (h1 : x ≤ 99999) :
    Calls Tryd.prog 34 #[.int .i64 x, .int .i64 7, .int .i64 8] w fun e w' => e = .returned (.int .i64 (convZ x 7 8)) ∧ w = w' := by
  have HB := Lib.hid (fun W => basic_any x 7 W (by decide) h0 h1)
  rw [show basN x 7 = x from rfl, show basD 7 = 1 from rfl] at HB
  go_enter Tryd.func34, Tryd.ntmps34
  go_wp2_with fail
  refine (HB.out _).mono ?_
  rintro e w1 ⟨rfl, rfl⟩
  go_wp2_with fail
  refine (specRound_any _ _ _ (by omega) (by omega) (by omega) (by omega)).mono ?_
  rintro e w1 ⟨rfl, rfl⟩
  have R := Lib.hid (show convZ x 7 8 = rdiv (x * 5 + 0 - 0) 127 from rfl)
  go_wp2
  go_ret
  refine ⟨?_, rfl⟩
  rw [R.out]
  refine congrArg (fun z => Ending.returned (.int .i64 z)) ?_
  show rdiv _ _ = rdiv _ _
  unfold rdiv
  split <;> split <;> omega

set_option maxHeartbeats 1000000 in
theorem conv_8_7 (x : Int) (w : World) (h0 : -99999 ≤ x) (h1 : x ≤ 99999) :
    Calls Tryd.prog 34 #[.int .i64 x, .int .i64 8, .int .i64 7] w fun e w' => e = .returned (.int .i64 (convZ x 8 7)) ∧ w = w' := by
  have HB := Lib.hid (fun W => basic_any x 8 W (by decide) h0 h1)
  rw [show basN x 8 = x * 127 from rfl, show basD 8 = 5 from rfl] at HB
  go_enter Tryd.func34, Tryd.ntmps34
  go_wp2_with fail
  refine (HB.out _).mono ?_
  rintro e w1 ⟨rfl, rfl⟩
  go_wp2_with fail
  refine (specRound_any _ _ _ (by omega) (by omega) (by omega) (by omega)).mono ?_
  rintro e w1 ⟨rfl, rfl⟩
  have R := Lib.hid (show convZ x 8 7 = rdiv (x * 127 + 0 - 0) 5 from rfl)
  go_wp2
  go_ret
  refine ⟨?_, rfl⟩
  rw [R.out]
  refine congrArg (fun z => Ending.returned (.int .i64 z)) ?_
  show rdiv _ _ = rdiv _ _
  unfold rdiv
  split <;> split <;> omega

set_option maxHeartbeats 1000000 in
theorem conv_8_8 (x : Int) (w : World) (h0 : -99999 ≤ x) (h1 : x ≤ 99999) :
    Calls Tryd.prog 34 #[.int .i64 x, .int .i64 8, .int .i64 8] w fun e w' => e = .returned (.int .i64 (convZ x 8 8)) ∧ w = w' := by
  have HB := Lib.hid (fun W => basic_any x 8 W (by decide) h0 h1)
  rw [show basN x 8 = x * 127 from rfl, show basD 8 = 5 from rfl] at HB
  go_enter Tryd.func34, Tryd.ntmps34
  go_wp2_with fail
  refine (HB.out _).mono ?_
  rintro e w1 ⟨rfl, rfl⟩
  go_wp2_with fail
  refine (specRound_any _ _ _ (by omega) (by omega) (by omega) (by omega)).mono ?_
  rintro e w1 ⟨rfl, rfl⟩
  have R := Lib.hid (show convZ x 8 8 = rdiv (x * 127 + 0 - 0) 127 from rfl)
  go_wp2
  go_ret
  refine ⟨?_, rfl⟩
  rw [R.out]
  refine congrArg (fun z => Ending.returned (.int .i64 z)) ?_
  show rdiv _ _ = rdiv _ _
  unfold rdiv
  split <;> split <;> omega

theorem specConv_any (x f t : Int) (w : World) (hf : unitB f = true) (ht : unitB t = true) (hk : kindZ f = kindZ t) (h0 : -99999 ≤ x) (h1 : x ≤ 99999) :
    Calls Tryd.prog 34 #[.int .i64 x, .int .i64 f, .int .i64 t] w fun e w' => e = .returned (.int .i64 (convZ x f t)) ∧ w = w' := by
  rcases unit_cases hf with rfl | rfl | rfl | rfl | rfl | rfl | rfl | rfl
  · rcases unit_cases ht with rfl | rfl | rfl | rfl | rfl | rfl | rfl | rfl
    · exact conv_1_1 x w h0 h1
    · exact conv_1_2 x w h0 h1
    · exact conv_1_3 x w h0 h1
    · exact absurd hk (by decide)
    · exact absurd hk (by decide)
    · exact absurd hk (by decide)
    · exact absurd hk (by decide)
    · exact absurd hk (by decide)
  · rcases unit_cases ht with rfl | rfl | rfl | rfl | rfl | rfl | rfl | rfl
    · exact conv_2_1 x w h0 h1
    · exact conv_2_2 x w h0 h1
    · exact conv_2_3 x w h0 h1
    · exact absurd hk (by decide)
    · exact absurd hk (by decide)
    · exact absurd hk (by decide)
    · exact absurd hk (by decide)
    · exact absurd hk (by decide)
  · rcases unit_cases ht with rfl | rfl | rfl | rfl | rfl | rfl | rfl | rfl
    · exact conv_3_1 x w h0 h1
    · exact conv_3_2 x w h0 h1
    · exact conv_3_3 x w h0 h1
    · exact absurd hk (by decide)
    · exact absurd hk (by decide)
    · exact absurd hk (by decide)
    · exact absurd hk (by decide)
    · exact absurd hk (by decide)
  · rcases unit_cases ht with rfl | rfl | rfl | rfl | rfl | rfl | rfl | rfl
    · exact absurd hk (by decide)
    · exact absurd hk (by decide)
    · exact absurd hk (by decide)
    · exact conv_4_4 x w h0 h1
    · exact conv_4_5 x w h0 h1
    · exact conv_4_6 x w h0 h1
    · exact absurd hk (by decide)
    · exact absurd hk (by decide)
  · rcases unit_cases ht with rfl | rfl | rfl | rfl | rfl | rfl | rfl | rfl
    · exact absurd hk (by decide)
    · exact absurd hk (by decide)
    · exact absurd hk (by decide)
    · exact conv_5_4 x w h0 h1
    · exact conv_5_5 x w h0 h1
    · exact conv_5_6 x w h0 h1
    · exact absurd hk (by decide)
    · exact absurd hk (by decide)
  · rcases unit_cases ht with rfl | rfl | rfl | rfl | rfl | rfl | rfl | rfl
    · exact absurd hk (by decide)
    · exact absurd hk (by decide)
    · exact absurd hk (by decide)
    · exact conv_6_4 x w h0 h1
    · exact conv_6_5 x w h0 h1
    · exact conv_6_6 x w h0 h1
    · exact absurd hk (by decide)
    · exact absurd hk (by decide)
  · rcases unit_cases ht with rfl | rfl | rfl | rfl | rfl | rfl | rfl | rfl
    · exact absurd hk (by decide)
    · exact absurd hk (by decide)
    · exact absurd hk (by decide)
    · exact absurd hk (by decide)
    · exact absurd hk (by decide)
    · exact absurd hk (by decide)
    · exact conv_7_7 x w h0 h1
    · exact conv_7_8 x w h0 h1
  · rcases unit_cases ht with rfl | rfl | rfl | rfl | rfl | rfl | rfl | rfl
    · exact absurd hk (by decide)
    · exact absurd hk (by decide)
    · exact absurd hk (by decide)
    · exact absurd hk (by decide)
    · exact absurd hk (by decide)
    · exact absurd hk (by decide)
    · exact conv_8_7 x w h0 h1
    · exact conv_8_8 x w h0 h1
end Go.Proofs.YtnafnkilmiebiaaDoor
