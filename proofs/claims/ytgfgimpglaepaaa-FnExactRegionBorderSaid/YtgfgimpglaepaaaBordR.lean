/- RegionBorder: the model's and the program's. -/
import Derived.Test.YtgfgimpglaepaaaBordI
namespace Go.Proofs.Ytgfgimpglaepaaa
open Go.RowKit
set_option linter.unusedVariables false
set_option linter.unusedSimpArgs false
theorem bordN_no {wd hg : Int} {l : List Int} (h : regB wd hg l = false) : bordN wd hg l = 0 := if_neg (by rw [h]; simp)
theorem bordN_yes {wd hg : Int} {l : List Int} (h : regB wd hg l = true) : bordN wd hg l = ((sidesL wd l l).length : Int) := if_pos h
set_option maxHeartbeats 1000000 in
theorem specBord_any (wd hg : Int) (a : Option Addr) (l : List Int) (c : Nat) (w : World) (hl : Ints .i64 w w.heap.size a l) (hn : l.length ≤ 1048576) :
    Calls Try.prog 52 #[.int .i64 wd, .int .i64 hg, .slice a l.length c] w fun e w' => e = .returned (.tuple #[.int .i64 (bordN wd hg l), .bool (regB wd hg l)]) ∧ Below w.heap.size w w' := by
  have HL := Lib.hid hl
  cases hr : regB wd hg l with
  | false =>
    rw [bordN_no hr]
    have C := Lib.hid (fun W h => specRegion_is wd hg a l c w.heap.size false W h hn hr)
    clear hl hr
    go_enter Try.func52, Try.ntmps52
    go_wp2_with fail
    refine (C.out _ HL.out).mono ?_
    rintro e w1 ⟨rfl, d1⟩
    have B1 := Lib.hid (d1.below w.heap.size)
    clear d1
    go_wp2
    go_ret2
    exact ⟨rfl, B1.out⟩
  | true =>
    rw [bordN_yes hr]
    have C := Lib.hid (fun W h => specRegion_is wd hg a l c w.heap.size true W h hn hr)
    have C2 := Lib.hid (fun W h => specSides_any wd hg a l c W h hn hr)
    have hlen := sidesL_len wd l l
    have hll := reg_len hr
    generalize sidesL wd l l = S at *
    clear hl hr
    go_enter Try.func52, Try.ntmps52
    go_wp2_with fail
    refine (C.out _ HL.out).mono ?_
    rintro e w1 ⟨rfl, d1⟩
    have B1 := Lib.hid (d1.below w.heap.size)
    clear d1
    go_wp2_with fail
    refine (C2.out _ ((HL.out.below B1.out (Nat.le_refl _)).more B1.out.size)).mono ?_
    rintro e w2 ⟨a2, c2, rfl, o2, b2⟩
    have B2 := Lib.hid (below_then B1.out b2)
    clear b2 o2
    go_wp2
    go_ret2
    exact ⟨rfl, B2.out⟩
set_option maxHeartbeats 1000000 in
theorem implBord_any (wd hg : Int) (a : Option Addr) (l : List Int) (c : Nat) (w : World) (hl : Ints .i64 w w.heap.size a l) (hn : l.length ≤ 1048576) :
    Calls Try.prog 30 #[.int .i64 wd, .int .i64 hg, .slice a l.length c] w fun e w' => e = .returned (.tuple #[.int .i64 (bordN wd hg l), .bool (regB wd hg l)]) ∧ Below w.heap.size w w' := by
  have HL := Lib.hid hl
  cases hr : regB wd hg l with
  | false =>
    rw [bordN_no hr]
    have C := Lib.hid (fun W h => implRegion_is wd hg a l c w.heap.size false W h hn hr)
    clear hl hr
    go_enter Try.func30, Try.ntmps30
    go_wp2_with fail
    refine (C.out _ HL.out).mono ?_
    rintro e w1 ⟨rfl, rfl⟩
    go_wp2
    go_ret2
    exact ⟨rfl, Below.refl _ _⟩
  | true =>
    rw [bordN_yes hr]
    have C := Lib.hid (fun W h => implRegion_is wd hg a l c w.heap.size true W h hn hr)
    have C2 := Lib.hid (fun W h => implSides_any wd hg a l c W h hr)
    have hlen := sidesL_len wd l l
    have hll := reg_len hr
    generalize sidesL wd l l = S at *
    clear hl hr
    go_enter Try.func30, Try.ntmps30
    go_wp2_with fail
    refine (C.out _ HL.out).mono ?_
    rintro e w1 ⟨rfl, rfl⟩
    go_wp2_with fail
    refine (C2.out _ HL.out).mono ?_
    rintro e w2 ⟨a2, c2, rfl, o2, b2⟩
    have B2 := Lib.hid b2
    clear b2 o2
    go_wp2
    go_ret2
    exact ⟨rfl, B2.out⟩
end Go.Proofs.Ytgfgimpglaepaaa
