/- The walk of the law FnExactSmoothChange. -/
import Derived.Test.YtecjkammoakakaaNbSm
namespace Go.Proofs.Ytecjkammoakakaa
open Go.RowKit
set_option linter.unusedVariables false
set_option linter.unusedSimpArgs false
set_option maxRecDepth 100000 in
set_option maxHeartbeats 1000000 in
theorem walk_SmLaw (wd hg : Int) (a : Option Addr) (l : List Int) (c : Nat) (rad : Int) (w : World) (hl : Ints .i64 w w.heap.size a l) (hm : l.length ≤ maxLen) :
    Calls Try.prog 13 #[.agg #[.int .i64 wd, .int .i64 hg, .slice a l.length c], .int .i64 rad] w fun e w' => e = .returned (.bool true) ∧ Below w.heap.size w w' := by
  have HZ := Lib.hid (fun o => szField_any wd hg a l.length c 1048576 (w.alloc o) hm (by omega) (by omega))
  unfold maxLen at hm
  by_cases hn : (l.length : Int) ≤ 1048576
  · have hn1 : l.length ≤ 1048576 := by omega
    rw [if_pos hn] at HZ
    have L0 := Lib.hid (Lw.new (wd := wd) (hg := hg) (c := c) hl)
    have HV := Lib.hid (fun b W h => specSm_any wd hg (some ⟨b, 0, none⟩) l l.length rad W h hn1)
    have HI := Lib.hid (fun b W h => implSm_any wd hg (some ⟨b, 0, none⟩) l l.length rad W h hn1 (Nat.le_refl _))
    generalize smN wd hg l rad = rn at *
    generalize nbB wd hg l rad = rb at *
    clear hl
    go_enter Try.func13, Try.ntmps13
    go_wp2_with fail
    refine (HZ.out _).mono ?_
    rintro e w1 ⟨rfl, b1⟩
    have L1 := Lib.hid (L0.out.step b1)
    obtain ⟨k0, k1, k2⟩ := L1.out.2.2.cells
    clear b1 HZ L0
    go_wp2_with fail
    refine (toField_any wd hg a l c _ L1.out.2.1 hn1).mono ?_
    rintro e w2 ⟨g2, hg2, hz2, rfl, at2, b2⟩
    have A2 := Lib.hid at2
    have L2 := Lib.hid (L1.out.step b2)
    clear at2 b2 L1 k0 k1 k2
    go_wp2_with fail
    refine (HV.out _ _ A2.out.ints).mono ?_
    rintro e w3 ⟨rfl, b3⟩
    have L3 := Lib.hid (L2.out.step b3)
    obtain ⟨k0, k1, k2⟩ := L3.out.2.2.cells
    clear b3 L2 A2
    go_wp2_with fail
    refine (toField_any wd hg a l c _ L3.out.2.1 hn1).mono ?_
    rintro e w4 ⟨g4, hg4, hz4, rfl, at4, b4⟩
    have A4 := Lib.hid (at4.alloc (.cells #[.int .i64 wd, .int .i64 hg, .slice (some ⟨g4, 0, none⟩) l.length l.length] 26))
    have L4 := Lib.hid (((L3.out.step b4).step (below_all w4 (.cells #[.int .i64 wd, .int .i64 hg, .slice (some ⟨g4, 0, none⟩) l.length l.length] 26))))
    have X4 := Lib.hid (Box.new w4 26 (.int .i64 wd) (.int .i64 hg) (.slice (some ⟨g4, 0, none⟩) l.length l.length))
    clear at4 b4 L3 k0 k1 k2
    go_wp2_with fail
    refine (HI.out _ _ A4.out.ints).mono ?_
    rintro e w5 ⟨rfl, b5⟩
    have A5 := Lib.hid (A4.out.below b5)
    have L5 := Lib.hid (L4.out.step b5)
    have X5 := Lib.hid (X4.out.below b5)
    clear b5 L4 A4 X4 HV HI
    cases rb <;> go_wp2_with fail
    all_goals
      obtain ⟨k0, k1, k2⟩ := L5.out.2.2.cells
      obtain ⟨q0, q1, q2⟩ := X5.out.cells
      have L6 := Lib.hid (L5.out.step (w2 := w5.drew) ⟨rfl, rfl, rfl, Nat.le_refl _, fun _ _ => rfl⟩)
      have A6 := Lib.hid (A5.out.below (w' := w5.drew) ⟨rfl, rfl, rfl, Nat.le_refl _, fun _ _ => rfl⟩)
      have X6 := Lib.hid (X5.out.below (w' := w5.drew) ⟨rfl, rfl, rfl, Nat.le_refl _, fun _ _ => rfl⟩)
      clear L5 A5 X5
      go_region_held3 (fun w' => (w'.cell? ⟨w.heap.size, 0, none⟩ = some (.int .i64 wd) ∧ w'.cell? ⟨w.heap.size, 1, none⟩ = some (.int .i64 hg) ∧ w'.cell? ⟨w.heap.size, 2, none⟩ = some (.slice a l.length c)) ∧
          (w'.cell? ⟨w4.heap.size, 0, none⟩ = some (.int .i64 wd) ∧ w'.cell? ⟨w4.heap.size, 1, none⟩ = some (.int .i64 hg) ∧ w'.cell? ⟨w4.heap.size, 2, none⟩ = some (.slice (some ⟨g4, 0, none⟩) l.length l.length)))
        (first | exact ⟨L8.out.2.2.cells, X8.out.cells⟩ | exact ⟨L7.out.2.2.cells, X7.out.cells⟩ | go_keep)
        (first
          | (go_at_call 42; refine (toField_any wd hg a l c _ L6.out.2.1 hn1).mono ?_; rintro e w7 ⟨g7, hg7, hz7, rfl, at7, b7⟩; have L7 := Lib.hid (L6.out.step b7); have X7 := Lib.hid (X6.out.below b7); have A7 := Lib.hid (A6.out.below b7); have F7 := Lib.hid at7; clear at7 b7)
          | (go_at_call 43; refine (eqField_yes wd hg _ _ l _ _ _ A7.out.ints F7.out.ints hn1).mono ?_; rintro e w8 ⟨rfl, b8⟩; have L8 := Lib.hid (L7.out.step b8); have X8 := Lib.hid (X7.out.below b8); clear b8))
      go_wp2
      go_ret
      exact ⟨rfl, L8.out.1⟩
  · rw [if_neg hn] at HZ
    clear hl
    go_enter Try.func13, Try.ntmps13
    go_wp2_with (go_at_call 41; refine (HZ.out _).mono ?_; rintro e w1 ⟨rfl, b⟩; have HB := Lib.hid b; clear b)
    go_ret
    exact ⟨rfl, below_then (below_all _ _) HB.out⟩
end Go.Proofs.Ytecjkammoakakaa
