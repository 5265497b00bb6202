/- The walk of the law FnExactNewField. -/
import Derived.Test.YtdgbhogbapbbgaaNew
namespace Go.Proofs.Ytdgbhogbapbbgaa
open Go.RowKit
set_option linter.unusedVariables false
set_option linter.unusedSimpArgs false
set_option maxRecDepth 100000 in
set_option maxHeartbeats 2000000 in
theorem walk_NewLaw (wd : Int) (hg : Int) (v : Int) (w : World) :
    Calls Try.prog 7 #[.int .i64 wd, .int .i64 hg, .int .i64 v] w fun e w' => e = .returned (.bool true) ∧ Below w.heap.size w w' := by
  have HV := Lib.hid (fun W => specNew_any wd hg v W)
  have HI := Lib.hid (fun W => implNew_any wd hg v W)
  have hlen := newR_len wd hg v
  generalize newR wd hg v = r at *
  obtain ⟨rw', hrw⟩ : ∃ x, rW r = x := ⟨_, rfl⟩
  obtain ⟨rh, hrh⟩ : ∃ x, rH r = x := ⟨_, rfl⟩
  obtain ⟨rl, hrl⟩ : ∃ x, rL r = x := ⟨_, rfl⟩
  obtain ⟨rb, hrb⟩ : ∃ x, rB r = x := ⟨_, rfl⟩
  unfold FRet at HV HI
  rw [hrw, hrh, hrl, hrb] at HV HI
  rw [hrl] at hlen
  clear hrw hrh hrl hrb
  go_enter Try.func7, Try.ntmps7
  go_wp2_with fail
  refine (HV.out _).mono ?_
  rintro e w1 ⟨a1, c1, rfl, o1, b1⟩
  obtain ⟨W1, hW1⟩ : ∃ W1, w1.alloc (.cells #[.int .i64 rw', .int .i64 rh, .slice a1 rl.length c1] 36) = W1 := ⟨_, rfl⟩
  have s1 : W1.heap.size = w1.heap.size + 1 := by rw [← hW1]; simp
  have X1 : Box W1 w1.heap.size 36 (.int .i64 rw') (.int .i64 rh) (.slice a1 rl.length c1) := by rw [← hW1]; exact Box.new _ _ _ _ _
  have B1 : Below w.heap.size w W1 := by rw [← hW1]; exact below_then b1 (below_all _ _)
  have I1 : Ints .i64 W1 W1.heap.size a1 rl := by rw [← hW1]; exact ints_alloc o1.ints _
  have hB1z := B1.size
  have hX1 := Lib.hid X1
  have hB1 := Lib.hid B1
  have hI1 := Lib.hid I1
  have HW1 := Lib.hid hW1
  clear X1 B1 I1 o1 b1 hW1
  go_wp2_with fail
  rw [HW1.out]
  refine (HI.out _).mono ?_
  rintro e w2 ⟨a2, c2, rfl, o2, b2⟩
  obtain ⟨g, hgB, hgn, at2⟩ := o2.pick b2.size
  obtain ⟨W2, hW2⟩ : ∃ W2, w2.alloc (.cells #[.int .i64 rw', .int .i64 rh, .slice a2 rl.length c2] 36) = W2 := ⟨_, rfl⟩
  have s2 : W2.heap.size = w2.heap.size + 1 := by rw [← hW2]; simp
  have z2 := b2.size
  have X2 : Box W2 w2.heap.size 36 (.int .i64 rw') (.int .i64 rh) (.slice a2 rl.length c2) := by rw [← hW2]; exact Box.new _ _ _ _ _
  have Y2 : Box W2 w1.heap.size 36 (.int .i64 rw') (.int .i64 rh) (.slice a1 rl.length c1) := by rw [← hW2]; exact (hX1.out.below b2).alloc _
  have B2 : Below w.heap.size w W2 := by rw [← hW2]; exact below_then (below_then hB1.out b2) (below_all _ _)
  have I2 : Ints .i64 W2 W1.heap.size a1 rl := by rw [← hW2]; exact hI1.out.below (below_then b2 (below_all _ _)) (Nat.le_refl _)
  have A2 : At W2 a2 g rl := by rw [← hW2]; exact at2.alloc _
  obtain ⟨y0, y1, y2⟩ := (hX1.out.below b2).cells
  have q1 : w1.heap.size < w2.heap.size := by omega
  have q2 : ¬ w1.heap.size = w2.heap.size := by omega
  have hX2 := Lib.hid X2
  have hY2 := Lib.hid Y2
  have hB2 := Lib.hid B2
  have hI2 := Lib.hid I2
  have hA2 := Lib.hid A2
  have HW2 := Lib.hid hW2
  clear X2 Y2 B2 I2 A2 at2 o2 b2 hW2 hX1 hB1 hI1 HW1
  go_wp2_with fail
  rw [HW2.out]
  refine (eqField_yes rw' rh _ _ rl _ _ _ hA2.out.ints (hI2.out.more (by omega)) (by omega)).mono ?_
  rintro e w3 ⟨rfl, b3⟩
  have z3 := b3.size
  have hX3 := Lib.hid (hX2.out.below b3)
  have hY3 := Lib.hid (hY2.out.below b3)
  have hB3 := Lib.hid (below_then hB2.out b3)
  have hI3 := Lib.hid (hI2.out.below b3 (by omega))
  have hA3 := Lib.hid (hA2.out.below b3)
  obtain ⟨x0, x1, x2⟩ := hX3.out.cells
  clear b3 hX2 hY2 hB2 hI2 hA2 HW2 y0 y1 y2
  cases rb <;> go_wp2_with fail
  all_goals
    refine (markField_any rw' rh a2 rl c2 g 1 _ hA3.out (by omega) (by omega) (by omega)).mono ?_
    rintro e w4 ⟨rfl, at4, t4⟩
    have z4 := t4.size
    have hX4 := Lib.hid (hX3.out.turn t4 (by omega))
    have hY4 := Lib.hid (hY3.out.turn t4 (by omega))
    have hB4 := Lib.hid (below_turn hB3.out t4 hB3.out.size (by have := hB3.out.size; have := hB1z; omega))
    have hI4 := Lib.hid (hI3.out.turn t4 (by omega) (by omega))
    have hA4 := Lib.hid at4
    clear x0 x1 x2 at4 t4 hX3 hY3 hB3 hI3 hA3
    obtain ⟨x0, x1, x2⟩ := hX4.out.cells
    go_wp2_with fail
    refine (heldField_any rw' rh a2 rl.length c2 1 _ hA4.out.ints (by omega) (by omega) (by omega)).mono ?_
    rintro e w5 ⟨rfl, b5⟩
    have z5 := b5.size
    have hX5 := Lib.hid (hX4.out.below b5)
    have hY5 := Lib.hid (hY4.out.below b5)
    have hB5 := Lib.hid (below_then hB4.out b5)
    have hI5 := Lib.hid (hI4.out.below b5 (by omega))
    have hA5 := Lib.hid (hA4.out.below b5)
    clear x0 x1 x2 b5 hX4 hY4 hB4 hI4 hA4
    go_wp2_with fail
    refine (HI.out _).mono ?_
    rintro e w6 ⟨a6, c6, rfl, o6, b6⟩
    have z6 := b6.size
    obtain ⟨W6, hW6⟩ : ∃ W6, w6.alloc (.cells #[.int .i64 rw', .int .i64 rh, .slice a6 rl.length c6] 36) = W6 := ⟨_, rfl⟩
    have b6' : Below w5.heap.size w5 W6 := by rw [← hW6]; exact below_then b6 (below_all _ _)
    have I6 : Ints .i64 W6 W6.heap.size a6 rl := by rw [← hW6]; exact ints_alloc o6.ints _
    obtain ⟨y0, y1, y2⟩ := (hY5.out.below b6).cells
    have q3 : w1.heap.size < w6.heap.size := by omega
    have q4 : ¬ w1.heap.size = w6.heap.size := by omega
    have z6' := b6'.size
    have hX6 := Lib.hid (hX5.out.below b6')
    have hB6 := Lib.hid (below_then hB5.out b6')
    have hI6 := Lib.hid (hI5.out.below b6' (by omega))
    have hA6 := Lib.hid (hA5.out.below b6')
    have hJ6 := Lib.hid I6
    have HW6 := Lib.hid hW6
    clear I6 o6 b6 b6' hW6 hX5 hY5 hB5 hI5 hA5
    go_wp2_with fail
    rw [HW6.out]
    refine (eqField_yes rw' rh _ _ rl _ _ _ hJ6.out (hI6.out.more (by omega)) (by omega)).mono ?_
    rintro e w7 ⟨rfl, b7⟩
    have hX7 := Lib.hid (hX6.out.below b7)
    have hB7 := Lib.hid (below_then hB6.out b7)
    have hA7 := Lib.hid (hA6.out.below b7)
    obtain ⟨x0, x1, x2⟩ := hX7.out.cells
    clear y0 y1 y2 b7 hX6 hB6 hI6 hA6 hJ6 HW6
    go_wp2_with fail
    refine (heldField_any rw' rh a2 rl.length c2 1 _ hA7.out.ints (by omega) (by omega) (by omega)).mono ?_
    rintro e w8 ⟨rfl, b8⟩
    have hB8 := Lib.hid (below_then hB7.out b8)
    clear b8
    go_wp2
    go_ret
    exact ⟨rfl, hB8.out⟩
end Go.Proofs.Ytdgbhogbapbbgaa
